/-
  The document's writer: the walk of val; no statement is proved here.
-/
import Derived.Test.YtfnfbioenngjoaaDoorDw3
namespace Go.Proofs.YtfnfbioenngjoaaDoor
open Go.RowKit
set_option linter.unusedVariables false
set_option linter.unusedSimpArgs false
set_option linter.constructorNameAsVariable false

def svW (fld : Bool) (t : VT) : Except Nat (List Int) := if fld = true then storW t else valW t
theorem sv_eq {st : Except Nat (List Int)} {fld : Bool} {t : VT} {c : Int} {ok : Bool} (h1 : ok = true → svW fld t = .ok [c]) (h2 : ok = false → svW fld t = .error 4) : thenW (thenW st (needW ok 4)) (.ok [c]) = thenW st (svW fld t) := by
  cases ok with
  | true => rw [thenW_yes, h1 rfl]
  | false => rw [thenW_no, h2 rfl]
theorem code1_in : ∀ k : _root_.Fin 4, codeW 1 (1 + (k.val : Int)) = some (127 - (k.val : Int)) := by decide +kernel
theorem one_in : ∀ x ∈ codeL, x.2.1 = 1 → 1 ≤ x.2.2 ∧ x.2.2 ≤ 4 := by decide +kernel
theorem codeW1_in {n : Int} (h0 : 1 ≤ n) (h1 : n ≤ 4) : codeW 1 n = some (128 - n) := by
  have := code1_in ⟨(n - 1).toNat, by omega⟩
  have e : 1 + (((n - 1).toNat : Nat) : Int) = n := by omega
  simp only [e] at this
  rw [this]
  congr 1
  omega
theorem codeW1_out {n : Int} (h : n < 1 ∨ 4 < n) : codeW 1 n = none := by
  unfold codeW
  refine findW_none codeL (fun x hx hc => ?_)
  have := one_in x hx hc.1
  omega
theorem codeW36 : codeW 3 6 = some 120 := by decide +kernel
theorem codeW37 : codeW 3 7 = some 119 := by decide +kernel
theorem val_of {fld : Bool} {n hp : Int} {nul : Bool} (h5 : n ≠ 5) (h6 : n ≠ 6) (h7 : n ≠ 7) : svW fld ⟨n, nul, hp⟩ = plainW 1 ⟨n, nul, hp⟩ := by
  have e : valW ⟨n, nul, hp⟩ = plainW 1 ⟨n, nul, hp⟩ := by unfold valW; rw [if_neg h5]
  unfold svW
  cases fld with
  | true => rw [if_pos rfl]; unfold storW; rw [if_neg (by simp only; omega), e]
  | false => rw [if_neg (by simp), e]
theorem plain_bad {k n hp : Int} {nul : Bool} (h : nul = true ∨ hp ≠ 0) : plainW k ⟨n, nul, hp⟩ = .error 4 := by
  unfold plainW
  rw [if_neg]
  rintro ⟨h1, h2⟩
  simp only at h1 h2
  rcases h with h | h
  · rw [h1] at h; cases h
  · exact h h2
theorem plain_good {k n : Int} : plainW k ⟨n, false, 0⟩ = codeR k n := by unfold plainW; rw [if_pos ⟨rfl, rfl⟩]
set_option maxRecDepth 100000 in
set_option maxHeartbeats 2000000 in
theorem dv_one_t_good {b B : Nat} {w : World} {st : Except Nat (List Int)} {N : Nat} (h : DW b B w st N) (n : Int) (h1 : 1 ≤ n) (h4 : n ≤ 4) (hN : N ≤ 17592186044400) :
    Calls Tryd.prog 36 #[.pointer (some ⟨b, 0, none⟩), .agg #[.int .i64 n, .bool false, .int .i64 0], .bool true] w (DA b B w (thenW st (svW true ⟨n, false, 0⟩)) (N + 1)) := by
  have d5 : (n != 5) = true := by simp; omega
  have d6 : (n == 6) = false := by simp; omega
  have d7 : (n == 7) = false := by simp; omega
  have dl : decide (1 ≤ n) = true := by simpa using h1
  have dh : decide (n ≤ 4) = true := by simpa using h4
  have cw : IntKind.i64.wrap (128 - n) = 128 - n := by rw [IntKind.wrap_i64]; omega
  have cv : IntKind.u8.wrap (128 - n) = 128 - n := by rw [IntKind.wrap_u8]; omega
  have E : Hid (thenW (thenW st (needW true 4)) (.ok [(128 - n)]) = thenW st (svW true ⟨n, false, 0⟩)) := sv_eq (fun _ => by rw [val_of (by omega) (by omega) (by omega), plain_good, codeR_some (codeW1_in h1 h4)]) (fun _ => by contradiction)
  have S0 : Hid (DW b B (w.alloc (.cells #[.int .i64 n, .bool false, .int .i64 0] 23)) st N) := h.grew ((Grew.refl w).alloc _)
  have T0 : Hid (WT b B w (w.alloc (.cells #[.int .i64 n, .bool false, .int .i64 0] 23))) := WT.of_grew ((Grew.refl w).alloc _)
  have hbx : (w.alloc (.cells #[.int .i64 n, .bool false, .int .i64 0] 23)).heap[w.heap.size]? = some (.cells #[.int .i64 n, .bool false, .int .i64 0] 23 (0, 0)) := heap_alloc_last w _
  have hb : b < w.heap.size := h.blt
  have hnP : w.heap.size ≠ b := by omega
  clear h
  go_enter Tryd.func36, Tryd.ntmps36
  go_wp2_with fail
  refine (must_any S0.out true 4 (by decide)).mono ?_
  rintro en w1 ⟨rfl, t1, s1⟩
  have T1 : Hid (WT b B w w1) := T0.out.trans t1
  have S1 : Hid (DW b B w1 (thenW st (needW true 4)) N) := s1
  have bxP1 : w1.heap[w.heap.size]? = some (.cells #[.int .i64 n, .bool false, .int .i64 0] 23 (0, 0)) := t1.other hbx hnP (NoT.of hbx (by decide))
  have fP0 := cell_of bxP1 0
  have fP1 := cell_of bxP1 1
  have fP2 := cell_of bxP1 2
  simp at fP0 fP1 fP2
  clear t1 s1 T0 S0 hbx
  obtain ⟨o1, e1, l1, h11, h21, h31, h41⟩ := S1.out.ex
  obtain ⟨oa1, oc1, rfl⟩ := row_one h21
  have c01 := cell_of h11 0
  simp at c01
  have R1 : Hid (w1.ownsRow B 5 1 (.slice oa1 l1.length oc1) l1.length (U8 l1)) := h21
  have O1 : Hid (w1.heap[b]? = some (dob (.slice oa1 l1.length oc1) e1)) := h11
  have E1 : Hid (StE (thenW st (needW true 4)) l1 e1) := h41
  have hlb1 : b < B := S1.out.lt
  have hBl1 : B ≤ w1.heap.size := S1.out.le
  clear h11 h21 h41
  go_wp2_with (
    at_builtin
    refine wp_appG (w := (w1.alloc (.cells #[.int .u8 (128 - n)] 5))) (v := .slice oa1 l1.length oc1) (u := .slice (some ⟨w1.heap.size, 0, none⟩) 1 1) (r := [(128 - n)]) rfl _ _ rfl rfl rfl (World.ownsRow.alloc R1.out _) (by simp; omega) (reads_new _ _ _) (by simp; omega) ?_
    intro v2 x2 ho2 hg2
    obtain ⟨a2, cc2, hv2⟩ := row_one ho2
    rw [List.length_append] at hv2
    subst hv2
    have A2 := dw_app (b := b) (B := B) (w := (w1.alloc (.cells #[.int .u8 (128 - n)] 5))) (st := thenW st (needW true 4)) (N := N) (r := [(128 - n)]) (heap_alloc O1.out _) (World.ownsRow.alloc R1.out _) h31 E1.out hlb1 (by simp; omega) ho2 hg2
    have q2 := cell_of A2.1 0
    have z2 := free_of A2.1 0
    simp at q2
    have HA2 : Hid (WT b B (w1.alloc (.cells #[.int .u8 (128 - n)] 5)) (x2.setCell ⟨b, 0, none⟩ (.slice a2 (l1.length + [((128 - n) : Int)].length) cc2)) ∧ DW b B (x2.setCell ⟨b, 0, none⟩ (.slice a2 (l1.length + [((128 - n) : Int)].length) cc2)) (thenW (thenW st (needW true 4)) (.ok [(128 - n)])) (N + [((128 - n) : Int)].length)) := A2.2
    have tt2 := A2.2.1
    clear A2 hg2 ho2 tt2 )
  have T2 : Hid (WT b B w (x2.setCell ⟨b, 0, none⟩ (.slice a2 (l1.length + 1) cc2))) := (T1.out.trans (WT.of_grew ((Grew.refl _).alloc _))).trans HA2.out.1
  have S2 : Hid (DW b B (x2.setCell ⟨b, 0, none⟩ (.slice a2 (l1.length + 1) cc2)) (thenW (thenW st (needW true 4)) (.ok [(128 - n)])) (N + 1)) := HA2.out.2
  clear HA2 q2 z2 T1 S1 c01 R1 O1 E1 hlb1 hBl1 h31
  go_end0
  exact ⟨rfl, T2.out, by rw [← E.out]; exact S2.out.mono (by omega)⟩
set_option maxRecDepth 100000 in
set_option maxHeartbeats 2000000 in
theorem dv_one_t_null {b B : Nat} {w : World} {st : Except Nat (List Int)} {N : Nat} (h : DW b B w st N) (n : Int) (h1 : 1 ≤ n) (h4 : n ≤ 4) (hp : Int) (hN : N ≤ 17592186044400) :
    Calls Tryd.prog 36 #[.pointer (some ⟨b, 0, none⟩), .agg #[.int .i64 n, .bool true, .int .i64 hp], .bool true] w (DA b B w (thenW st (svW true ⟨n, true, hp⟩)) (N + 1)) := by
  have d5 : (n != 5) = true := by simp; omega
  have d6 : (n == 6) = false := by simp; omega
  have d7 : (n == 7) = false := by simp; omega
  have dl : decide (1 ≤ n) = true := by simpa using h1
  have dh : decide (n ≤ 4) = true := by simpa using h4
  have cw : IntKind.i64.wrap (128 - n) = 128 - n := by rw [IntKind.wrap_i64]; omega
  have cv : IntKind.u8.wrap (128 - n) = 128 - n := by rw [IntKind.wrap_u8]; omega
  have E : Hid (thenW (thenW st (needW false 4)) (.ok [(128 - n)]) = thenW st (svW true ⟨n, true, hp⟩)) := sv_eq (fun _ => by contradiction) (fun _ => by rw [val_of (by omega) (by omega) (by omega)]; exact plain_bad (Or.inl rfl))
  have S0 : Hid (DW b B (w.alloc (.cells #[.int .i64 n, .bool true, .int .i64 hp] 23)) st N) := h.grew ((Grew.refl w).alloc _)
  have T0 : Hid (WT b B w (w.alloc (.cells #[.int .i64 n, .bool true, .int .i64 hp] 23))) := WT.of_grew ((Grew.refl w).alloc _)
  have hbx : (w.alloc (.cells #[.int .i64 n, .bool true, .int .i64 hp] 23)).heap[w.heap.size]? = some (.cells #[.int .i64 n, .bool true, .int .i64 hp] 23 (0, 0)) := heap_alloc_last w _
  have hb : b < w.heap.size := h.blt
  have hnP : w.heap.size ≠ b := by omega
  clear h
  go_enter Tryd.func36, Tryd.ntmps36
  go_wp2_with fail
  refine (must_any S0.out false 4 (by decide)).mono ?_
  rintro en w1 ⟨rfl, t1, s1⟩
  have T1 : Hid (WT b B w w1) := T0.out.trans t1
  have S1 : Hid (DW b B w1 (thenW st (needW false 4)) N) := s1
  have bxP1 : w1.heap[w.heap.size]? = some (.cells #[.int .i64 n, .bool true, .int .i64 hp] 23 (0, 0)) := t1.other hbx hnP (NoT.of hbx (by decide))
  have fP0 := cell_of bxP1 0
  have fP1 := cell_of bxP1 1
  have fP2 := cell_of bxP1 2
  simp at fP0 fP1 fP2
  clear t1 s1 T0 S0 hbx
  obtain ⟨o1, e1, l1, h11, h21, h31, h41⟩ := S1.out.ex
  obtain ⟨oa1, oc1, rfl⟩ := row_one h21
  have c01 := cell_of h11 0
  simp at c01
  have R1 : Hid (w1.ownsRow B 5 1 (.slice oa1 l1.length oc1) l1.length (U8 l1)) := h21
  have O1 : Hid (w1.heap[b]? = some (dob (.slice oa1 l1.length oc1) e1)) := h11
  have E1 : Hid (StE (thenW st (needW false 4)) l1 e1) := h41
  have hlb1 : b < B := S1.out.lt
  have hBl1 : B ≤ w1.heap.size := S1.out.le
  clear h11 h21 h41
  go_wp2_with (
    at_builtin
    refine wp_appG (w := (w1.alloc (.cells #[.int .u8 (128 - n)] 5))) (v := .slice oa1 l1.length oc1) (u := .slice (some ⟨w1.heap.size, 0, none⟩) 1 1) (r := [(128 - n)]) rfl _ _ rfl rfl rfl (World.ownsRow.alloc R1.out _) (by simp; omega) (reads_new _ _ _) (by simp; omega) ?_
    intro v2 x2 ho2 hg2
    obtain ⟨a2, cc2, hv2⟩ := row_one ho2
    rw [List.length_append] at hv2
    subst hv2
    have A2 := dw_app (b := b) (B := B) (w := (w1.alloc (.cells #[.int .u8 (128 - n)] 5))) (st := thenW st (needW false 4)) (N := N) (r := [(128 - n)]) (heap_alloc O1.out _) (World.ownsRow.alloc R1.out _) h31 E1.out hlb1 (by simp; omega) ho2 hg2
    have q2 := cell_of A2.1 0
    have z2 := free_of A2.1 0
    simp at q2
    have HA2 : Hid (WT b B (w1.alloc (.cells #[.int .u8 (128 - n)] 5)) (x2.setCell ⟨b, 0, none⟩ (.slice a2 (l1.length + [((128 - n) : Int)].length) cc2)) ∧ DW b B (x2.setCell ⟨b, 0, none⟩ (.slice a2 (l1.length + [((128 - n) : Int)].length) cc2)) (thenW (thenW st (needW false 4)) (.ok [(128 - n)])) (N + [((128 - n) : Int)].length)) := A2.2
    have tt2 := A2.2.1
    clear A2 hg2 ho2 tt2 )
  have T2 : Hid (WT b B w (x2.setCell ⟨b, 0, none⟩ (.slice a2 (l1.length + 1) cc2))) := (T1.out.trans (WT.of_grew ((Grew.refl _).alloc _))).trans HA2.out.1
  have S2 : Hid (DW b B (x2.setCell ⟨b, 0, none⟩ (.slice a2 (l1.length + 1) cc2)) (thenW (thenW st (needW false 4)) (.ok [(128 - n)])) (N + 1)) := HA2.out.2
  clear HA2 q2 z2 T1 S1 c01 R1 O1 E1 hlb1 hBl1 h31
  go_end0
  exact ⟨rfl, T2.out, by rw [← E.out]; exact S2.out.mono (by omega)⟩
set_option maxRecDepth 100000 in
set_option maxHeartbeats 2000000 in
theorem dv_one_t_heap {b B : Nat} {w : World} {st : Except Nat (List Int)} {N : Nat} (h : DW b B w st N) (n : Int) (h1 : 1 ≤ n) (h4 : n ≤ 4) (hp : Int) (hh : hp ≠ 0) (hN : N ≤ 17592186044400) :
    Calls Tryd.prog 36 #[.pointer (some ⟨b, 0, none⟩), .agg #[.int .i64 n, .bool false, .int .i64 hp], .bool true] w (DA b B w (thenW st (svW true ⟨n, false, hp⟩)) (N + 1)) := by
  have d5 : (n != 5) = true := by simp; omega
  have d6 : (n == 6) = false := by simp; omega
  have d7 : (n == 7) = false := by simp; omega
  have dl : decide (1 ≤ n) = true := by simpa using h1
  have dh : decide (n ≤ 4) = true := by simpa using h4
  have cw : IntKind.i64.wrap (128 - n) = 128 - n := by rw [IntKind.wrap_i64]; omega
  have cv : IntKind.u8.wrap (128 - n) = 128 - n := by rw [IntKind.wrap_u8]; omega
  have dhp : (hp == 0) = false := by simpa using hh
  have E : Hid (thenW (thenW st (needW false 4)) (.ok [(128 - n)]) = thenW st (svW true ⟨n, false, hp⟩)) := sv_eq (fun _ => by contradiction) (fun _ => by rw [val_of (by omega) (by omega) (by omega)]; exact plain_bad (Or.inr hh))
  have S0 : Hid (DW b B (w.alloc (.cells #[.int .i64 n, .bool false, .int .i64 hp] 23)) st N) := h.grew ((Grew.refl w).alloc _)
  have T0 : Hid (WT b B w (w.alloc (.cells #[.int .i64 n, .bool false, .int .i64 hp] 23))) := WT.of_grew ((Grew.refl w).alloc _)
  have hbx : (w.alloc (.cells #[.int .i64 n, .bool false, .int .i64 hp] 23)).heap[w.heap.size]? = some (.cells #[.int .i64 n, .bool false, .int .i64 hp] 23 (0, 0)) := heap_alloc_last w _
  have hb : b < w.heap.size := h.blt
  have hnP : w.heap.size ≠ b := by omega
  clear h
  go_enter Tryd.func36, Tryd.ntmps36
  go_wp2_with fail
  refine (must_any S0.out false 4 (by decide)).mono ?_
  rintro en w1 ⟨rfl, t1, s1⟩
  have T1 : Hid (WT b B w w1) := T0.out.trans t1
  have S1 : Hid (DW b B w1 (thenW st (needW false 4)) N) := s1
  have bxP1 : w1.heap[w.heap.size]? = some (.cells #[.int .i64 n, .bool false, .int .i64 hp] 23 (0, 0)) := t1.other hbx hnP (NoT.of hbx (by decide))
  have fP0 := cell_of bxP1 0
  have fP1 := cell_of bxP1 1
  have fP2 := cell_of bxP1 2
  simp at fP0 fP1 fP2
  clear t1 s1 T0 S0 hbx
  obtain ⟨o1, e1, l1, h11, h21, h31, h41⟩ := S1.out.ex
  obtain ⟨oa1, oc1, rfl⟩ := row_one h21
  have c01 := cell_of h11 0
  simp at c01
  have R1 : Hid (w1.ownsRow B 5 1 (.slice oa1 l1.length oc1) l1.length (U8 l1)) := h21
  have O1 : Hid (w1.heap[b]? = some (dob (.slice oa1 l1.length oc1) e1)) := h11
  have E1 : Hid (StE (thenW st (needW false 4)) l1 e1) := h41
  have hlb1 : b < B := S1.out.lt
  have hBl1 : B ≤ w1.heap.size := S1.out.le
  clear h11 h21 h41
  go_wp2_with (
    at_builtin
    refine wp_appG (w := (w1.alloc (.cells #[.int .u8 (128 - n)] 5))) (v := .slice oa1 l1.length oc1) (u := .slice (some ⟨w1.heap.size, 0, none⟩) 1 1) (r := [(128 - n)]) rfl _ _ rfl rfl rfl (World.ownsRow.alloc R1.out _) (by simp; omega) (reads_new _ _ _) (by simp; omega) ?_
    intro v2 x2 ho2 hg2
    obtain ⟨a2, cc2, hv2⟩ := row_one ho2
    rw [List.length_append] at hv2
    subst hv2
    have A2 := dw_app (b := b) (B := B) (w := (w1.alloc (.cells #[.int .u8 (128 - n)] 5))) (st := thenW st (needW false 4)) (N := N) (r := [(128 - n)]) (heap_alloc O1.out _) (World.ownsRow.alloc R1.out _) h31 E1.out hlb1 (by simp; omega) ho2 hg2
    have q2 := cell_of A2.1 0
    have z2 := free_of A2.1 0
    simp at q2
    have HA2 : Hid (WT b B (w1.alloc (.cells #[.int .u8 (128 - n)] 5)) (x2.setCell ⟨b, 0, none⟩ (.slice a2 (l1.length + [((128 - n) : Int)].length) cc2)) ∧ DW b B (x2.setCell ⟨b, 0, none⟩ (.slice a2 (l1.length + [((128 - n) : Int)].length) cc2)) (thenW (thenW st (needW false 4)) (.ok [(128 - n)])) (N + [((128 - n) : Int)].length)) := A2.2
    have tt2 := A2.2.1
    clear A2 hg2 ho2 tt2 )
  have T2 : Hid (WT b B w (x2.setCell ⟨b, 0, none⟩ (.slice a2 (l1.length + 1) cc2))) := (T1.out.trans (WT.of_grew ((Grew.refl _).alloc _))).trans HA2.out.1
  have S2 : Hid (DW b B (x2.setCell ⟨b, 0, none⟩ (.slice a2 (l1.length + 1) cc2)) (thenW (thenW st (needW false 4)) (.ok [(128 - n)])) (N + 1)) := HA2.out.2
  clear HA2 q2 z2 T1 S1 c01 R1 O1 E1 hlb1 hBl1 h31
  go_end0
  exact ⟨rfl, T2.out, by rw [← E.out]; exact S2.out.mono (by omega)⟩
set_option maxRecDepth 100000 in
set_option maxHeartbeats 2000000 in
theorem dv_one_f_good {b B : Nat} {w : World} {st : Except Nat (List Int)} {N : Nat} (h : DW b B w st N) (n : Int) (h1 : 1 ≤ n) (h4 : n ≤ 4) (hN : N ≤ 17592186044400) :
    Calls Tryd.prog 36 #[.pointer (some ⟨b, 0, none⟩), .agg #[.int .i64 n, .bool false, .int .i64 0], .bool false] w (DA b B w (thenW st (svW false ⟨n, false, 0⟩)) (N + 1)) := by
  have d5 : (n != 5) = true := by simp; omega
  have d6 : (n == 6) = false := by simp; omega
  have d7 : (n == 7) = false := by simp; omega
  have dl : decide (1 ≤ n) = true := by simpa using h1
  have dh : decide (n ≤ 4) = true := by simpa using h4
  have cw : IntKind.i64.wrap (128 - n) = 128 - n := by rw [IntKind.wrap_i64]; omega
  have cv : IntKind.u8.wrap (128 - n) = 128 - n := by rw [IntKind.wrap_u8]; omega
  have E : Hid (thenW (thenW st (needW true 4)) (.ok [(128 - n)]) = thenW st (svW false ⟨n, false, 0⟩)) := sv_eq (fun _ => by rw [val_of (by omega) (by omega) (by omega), plain_good, codeR_some (codeW1_in h1 h4)]) (fun _ => by contradiction)
  have S0 : Hid (DW b B (w.alloc (.cells #[.int .i64 n, .bool false, .int .i64 0] 23)) st N) := h.grew ((Grew.refl w).alloc _)
  have T0 : Hid (WT b B w (w.alloc (.cells #[.int .i64 n, .bool false, .int .i64 0] 23))) := WT.of_grew ((Grew.refl w).alloc _)
  have hbx : (w.alloc (.cells #[.int .i64 n, .bool false, .int .i64 0] 23)).heap[w.heap.size]? = some (.cells #[.int .i64 n, .bool false, .int .i64 0] 23 (0, 0)) := heap_alloc_last w _
  have hb : b < w.heap.size := h.blt
  have hnP : w.heap.size ≠ b := by omega
  clear h
  go_enter Tryd.func36, Tryd.ntmps36
  go_wp2_with fail
  refine (must_any S0.out true 4 (by decide)).mono ?_
  rintro en w1 ⟨rfl, t1, s1⟩
  have T1 : Hid (WT b B w w1) := T0.out.trans t1
  have S1 : Hid (DW b B w1 (thenW st (needW true 4)) N) := s1
  have bxP1 : w1.heap[w.heap.size]? = some (.cells #[.int .i64 n, .bool false, .int .i64 0] 23 (0, 0)) := t1.other hbx hnP (NoT.of hbx (by decide))
  have fP0 := cell_of bxP1 0
  have fP1 := cell_of bxP1 1
  have fP2 := cell_of bxP1 2
  simp at fP0 fP1 fP2
  clear t1 s1 T0 S0 hbx
  obtain ⟨o1, e1, l1, h11, h21, h31, h41⟩ := S1.out.ex
  obtain ⟨oa1, oc1, rfl⟩ := row_one h21
  have c01 := cell_of h11 0
  simp at c01
  have R1 : Hid (w1.ownsRow B 5 1 (.slice oa1 l1.length oc1) l1.length (U8 l1)) := h21
  have O1 : Hid (w1.heap[b]? = some (dob (.slice oa1 l1.length oc1) e1)) := h11
  have E1 : Hid (StE (thenW st (needW true 4)) l1 e1) := h41
  have hlb1 : b < B := S1.out.lt
  have hBl1 : B ≤ w1.heap.size := S1.out.le
  clear h11 h21 h41
  go_wp2_with (
    at_builtin
    refine wp_appG (w := (w1.alloc (.cells #[.int .u8 (128 - n)] 5))) (v := .slice oa1 l1.length oc1) (u := .slice (some ⟨w1.heap.size, 0, none⟩) 1 1) (r := [(128 - n)]) rfl _ _ rfl rfl rfl (World.ownsRow.alloc R1.out _) (by simp; omega) (reads_new _ _ _) (by simp; omega) ?_
    intro v2 x2 ho2 hg2
    obtain ⟨a2, cc2, hv2⟩ := row_one ho2
    rw [List.length_append] at hv2
    subst hv2
    have A2 := dw_app (b := b) (B := B) (w := (w1.alloc (.cells #[.int .u8 (128 - n)] 5))) (st := thenW st (needW true 4)) (N := N) (r := [(128 - n)]) (heap_alloc O1.out _) (World.ownsRow.alloc R1.out _) h31 E1.out hlb1 (by simp; omega) ho2 hg2
    have q2 := cell_of A2.1 0
    have z2 := free_of A2.1 0
    simp at q2
    have HA2 : Hid (WT b B (w1.alloc (.cells #[.int .u8 (128 - n)] 5)) (x2.setCell ⟨b, 0, none⟩ (.slice a2 (l1.length + [((128 - n) : Int)].length) cc2)) ∧ DW b B (x2.setCell ⟨b, 0, none⟩ (.slice a2 (l1.length + [((128 - n) : Int)].length) cc2)) (thenW (thenW st (needW true 4)) (.ok [(128 - n)])) (N + [((128 - n) : Int)].length)) := A2.2
    have tt2 := A2.2.1
    clear A2 hg2 ho2 tt2 )
  have T2 : Hid (WT b B w (x2.setCell ⟨b, 0, none⟩ (.slice a2 (l1.length + 1) cc2))) := (T1.out.trans (WT.of_grew ((Grew.refl _).alloc _))).trans HA2.out.1
  have S2 : Hid (DW b B (x2.setCell ⟨b, 0, none⟩ (.slice a2 (l1.length + 1) cc2)) (thenW (thenW st (needW true 4)) (.ok [(128 - n)])) (N + 1)) := HA2.out.2
  clear HA2 q2 z2 T1 S1 c01 R1 O1 E1 hlb1 hBl1 h31
  go_end0
  exact ⟨rfl, T2.out, by rw [← E.out]; exact S2.out.mono (by omega)⟩
set_option maxRecDepth 100000 in
set_option maxHeartbeats 2000000 in
theorem dv_one_f_null {b B : Nat} {w : World} {st : Except Nat (List Int)} {N : Nat} (h : DW b B w st N) (n : Int) (h1 : 1 ≤ n) (h4 : n ≤ 4) (hp : Int) (hN : N ≤ 17592186044400) :
    Calls Tryd.prog 36 #[.pointer (some ⟨b, 0, none⟩), .agg #[.int .i64 n, .bool true, .int .i64 hp], .bool false] w (DA b B w (thenW st (svW false ⟨n, true, hp⟩)) (N + 1)) := by
  have d5 : (n != 5) = true := by simp; omega
  have d6 : (n == 6) = false := by simp; omega
  have d7 : (n == 7) = false := by simp; omega
  have dl : decide (1 ≤ n) = true := by simpa using h1
  have dh : decide (n ≤ 4) = true := by simpa using h4
  have cw : IntKind.i64.wrap (128 - n) = 128 - n := by rw [IntKind.wrap_i64]; omega
  have cv : IntKind.u8.wrap (128 - n) = 128 - n := by rw [IntKind.wrap_u8]; omega
  have E : Hid (thenW (thenW st (needW false 4)) (.ok [(128 - n)]) = thenW st (svW false ⟨n, true, hp⟩)) := sv_eq (fun _ => by contradiction) (fun _ => by rw [val_of (by omega) (by omega) (by omega)]; exact plain_bad (Or.inl rfl))
  have S0 : Hid (DW b B (w.alloc (.cells #[.int .i64 n, .bool true, .int .i64 hp] 23)) st N) := h.grew ((Grew.refl w).alloc _)
  have T0 : Hid (WT b B w (w.alloc (.cells #[.int .i64 n, .bool true, .int .i64 hp] 23))) := WT.of_grew ((Grew.refl w).alloc _)
  have hbx : (w.alloc (.cells #[.int .i64 n, .bool true, .int .i64 hp] 23)).heap[w.heap.size]? = some (.cells #[.int .i64 n, .bool true, .int .i64 hp] 23 (0, 0)) := heap_alloc_last w _
  have hb : b < w.heap.size := h.blt
  have hnP : w.heap.size ≠ b := by omega
  clear h
  go_enter Tryd.func36, Tryd.ntmps36
  go_wp2_with fail
  refine (must_any S0.out false 4 (by decide)).mono ?_
  rintro en w1 ⟨rfl, t1, s1⟩
  have T1 : Hid (WT b B w w1) := T0.out.trans t1
  have S1 : Hid (DW b B w1 (thenW st (needW false 4)) N) := s1
  have bxP1 : w1.heap[w.heap.size]? = some (.cells #[.int .i64 n, .bool true, .int .i64 hp] 23 (0, 0)) := t1.other hbx hnP (NoT.of hbx (by decide))
  have fP0 := cell_of bxP1 0
  have fP1 := cell_of bxP1 1
  have fP2 := cell_of bxP1 2
  simp at fP0 fP1 fP2
  clear t1 s1 T0 S0 hbx
  obtain ⟨o1, e1, l1, h11, h21, h31, h41⟩ := S1.out.ex
  obtain ⟨oa1, oc1, rfl⟩ := row_one h21
  have c01 := cell_of h11 0
  simp at c01
  have R1 : Hid (w1.ownsRow B 5 1 (.slice oa1 l1.length oc1) l1.length (U8 l1)) := h21
  have O1 : Hid (w1.heap[b]? = some (dob (.slice oa1 l1.length oc1) e1)) := h11
  have E1 : Hid (StE (thenW st (needW false 4)) l1 e1) := h41
  have hlb1 : b < B := S1.out.lt
  have hBl1 : B ≤ w1.heap.size := S1.out.le
  clear h11 h21 h41
  go_wp2_with (
    at_builtin
    refine wp_appG (w := (w1.alloc (.cells #[.int .u8 (128 - n)] 5))) (v := .slice oa1 l1.length oc1) (u := .slice (some ⟨w1.heap.size, 0, none⟩) 1 1) (r := [(128 - n)]) rfl _ _ rfl rfl rfl (World.ownsRow.alloc R1.out _) (by simp; omega) (reads_new _ _ _) (by simp; omega) ?_
    intro v2 x2 ho2 hg2
    obtain ⟨a2, cc2, hv2⟩ := row_one ho2
    rw [List.length_append] at hv2
    subst hv2
    have A2 := dw_app (b := b) (B := B) (w := (w1.alloc (.cells #[.int .u8 (128 - n)] 5))) (st := thenW st (needW false 4)) (N := N) (r := [(128 - n)]) (heap_alloc O1.out _) (World.ownsRow.alloc R1.out _) h31 E1.out hlb1 (by simp; omega) ho2 hg2
    have q2 := cell_of A2.1 0
    have z2 := free_of A2.1 0
    simp at q2
    have HA2 : Hid (WT b B (w1.alloc (.cells #[.int .u8 (128 - n)] 5)) (x2.setCell ⟨b, 0, none⟩ (.slice a2 (l1.length + [((128 - n) : Int)].length) cc2)) ∧ DW b B (x2.setCell ⟨b, 0, none⟩ (.slice a2 (l1.length + [((128 - n) : Int)].length) cc2)) (thenW (thenW st (needW false 4)) (.ok [(128 - n)])) (N + [((128 - n) : Int)].length)) := A2.2
    have tt2 := A2.2.1
    clear A2 hg2 ho2 tt2 )
  have T2 : Hid (WT b B w (x2.setCell ⟨b, 0, none⟩ (.slice a2 (l1.length + 1) cc2))) := (T1.out.trans (WT.of_grew ((Grew.refl _).alloc _))).trans HA2.out.1
  have S2 : Hid (DW b B (x2.setCell ⟨b, 0, none⟩ (.slice a2 (l1.length + 1) cc2)) (thenW (thenW st (needW false 4)) (.ok [(128 - n)])) (N + 1)) := HA2.out.2
  clear HA2 q2 z2 T1 S1 c01 R1 O1 E1 hlb1 hBl1 h31
  go_end0
  exact ⟨rfl, T2.out, by rw [← E.out]; exact S2.out.mono (by omega)⟩
set_option maxRecDepth 100000 in
set_option maxHeartbeats 2000000 in
theorem dv_one_f_heap {b B : Nat} {w : World} {st : Except Nat (List Int)} {N : Nat} (h : DW b B w st N) (n : Int) (h1 : 1 ≤ n) (h4 : n ≤ 4) (hp : Int) (hh : hp ≠ 0) (hN : N ≤ 17592186044400) :
    Calls Tryd.prog 36 #[.pointer (some ⟨b, 0, none⟩), .agg #[.int .i64 n, .bool false, .int .i64 hp], .bool false] w (DA b B w (thenW st (svW false ⟨n, false, hp⟩)) (N + 1)) := by
  have d5 : (n != 5) = true := by simp; omega
  have d6 : (n == 6) = false := by simp; omega
  have d7 : (n == 7) = false := by simp; omega
  have dl : decide (1 ≤ n) = true := by simpa using h1
  have dh : decide (n ≤ 4) = true := by simpa using h4
  have cw : IntKind.i64.wrap (128 - n) = 128 - n := by rw [IntKind.wrap_i64]; omega
  have cv : IntKind.u8.wrap (128 - n) = 128 - n := by rw [IntKind.wrap_u8]; omega
  have dhp : (hp == 0) = false := by simpa using hh
  have E : Hid (thenW (thenW st (needW false 4)) (.ok [(128 - n)]) = thenW st (svW false ⟨n, false, hp⟩)) := sv_eq (fun _ => by contradiction) (fun _ => by rw [val_of (by omega) (by omega) (by omega)]; exact plain_bad (Or.inr hh))
  have S0 : Hid (DW b B (w.alloc (.cells #[.int .i64 n, .bool false, .int .i64 hp] 23)) st N) := h.grew ((Grew.refl w).alloc _)
  have T0 : Hid (WT b B w (w.alloc (.cells #[.int .i64 n, .bool false, .int .i64 hp] 23))) := WT.of_grew ((Grew.refl w).alloc _)
  have hbx : (w.alloc (.cells #[.int .i64 n, .bool false, .int .i64 hp] 23)).heap[w.heap.size]? = some (.cells #[.int .i64 n, .bool false, .int .i64 hp] 23 (0, 0)) := heap_alloc_last w _
  have hb : b < w.heap.size := h.blt
  have hnP : w.heap.size ≠ b := by omega
  clear h
  go_enter Tryd.func36, Tryd.ntmps36
  go_wp2_with fail
  refine (must_any S0.out false 4 (by decide)).mono ?_
  rintro en w1 ⟨rfl, t1, s1⟩
  have T1 : Hid (WT b B w w1) := T0.out.trans t1
  have S1 : Hid (DW b B w1 (thenW st (needW false 4)) N) := s1
  have bxP1 : w1.heap[w.heap.size]? = some (.cells #[.int .i64 n, .bool false, .int .i64 hp] 23 (0, 0)) := t1.other hbx hnP (NoT.of hbx (by decide))
  have fP0 := cell_of bxP1 0
  have fP1 := cell_of bxP1 1
  have fP2 := cell_of bxP1 2
  simp at fP0 fP1 fP2
  clear t1 s1 T0 S0 hbx
  obtain ⟨o1, e1, l1, h11, h21, h31, h41⟩ := S1.out.ex
  obtain ⟨oa1, oc1, rfl⟩ := row_one h21
  have c01 := cell_of h11 0
  simp at c01
  have R1 : Hid (w1.ownsRow B 5 1 (.slice oa1 l1.length oc1) l1.length (U8 l1)) := h21
  have O1 : Hid (w1.heap[b]? = some (dob (.slice oa1 l1.length oc1) e1)) := h11
  have E1 : Hid (StE (thenW st (needW false 4)) l1 e1) := h41
  have hlb1 : b < B := S1.out.lt
  have hBl1 : B ≤ w1.heap.size := S1.out.le
  clear h11 h21 h41
  go_wp2_with (
    at_builtin
    refine wp_appG (w := (w1.alloc (.cells #[.int .u8 (128 - n)] 5))) (v := .slice oa1 l1.length oc1) (u := .slice (some ⟨w1.heap.size, 0, none⟩) 1 1) (r := [(128 - n)]) rfl _ _ rfl rfl rfl (World.ownsRow.alloc R1.out _) (by simp; omega) (reads_new _ _ _) (by simp; omega) ?_
    intro v2 x2 ho2 hg2
    obtain ⟨a2, cc2, hv2⟩ := row_one ho2
    rw [List.length_append] at hv2
    subst hv2
    have A2 := dw_app (b := b) (B := B) (w := (w1.alloc (.cells #[.int .u8 (128 - n)] 5))) (st := thenW st (needW false 4)) (N := N) (r := [(128 - n)]) (heap_alloc O1.out _) (World.ownsRow.alloc R1.out _) h31 E1.out hlb1 (by simp; omega) ho2 hg2
    have q2 := cell_of A2.1 0
    have z2 := free_of A2.1 0
    simp at q2
    have HA2 : Hid (WT b B (w1.alloc (.cells #[.int .u8 (128 - n)] 5)) (x2.setCell ⟨b, 0, none⟩ (.slice a2 (l1.length + [((128 - n) : Int)].length) cc2)) ∧ DW b B (x2.setCell ⟨b, 0, none⟩ (.slice a2 (l1.length + [((128 - n) : Int)].length) cc2)) (thenW (thenW st (needW false 4)) (.ok [(128 - n)])) (N + [((128 - n) : Int)].length)) := A2.2
    have tt2 := A2.2.1
    clear A2 hg2 ho2 tt2 )
  have T2 : Hid (WT b B w (x2.setCell ⟨b, 0, none⟩ (.slice a2 (l1.length + 1) cc2))) := (T1.out.trans (WT.of_grew ((Grew.refl _).alloc _))).trans HA2.out.1
  have S2 : Hid (DW b B (x2.setCell ⟨b, 0, none⟩ (.slice a2 (l1.length + 1) cc2)) (thenW (thenW st (needW false 4)) (.ok [(128 - n)])) (N + 1)) := HA2.out.2
  clear HA2 q2 z2 T1 S1 c01 R1 O1 E1 hlb1 hBl1 h31
  go_end0
  exact ⟨rfl, T2.out, by rw [← E.out]; exact S2.out.mono (by omega)⟩
set_option maxRecDepth 100000 in
set_option maxHeartbeats 2000000 in
theorem dv_six_t_good {b B : Nat} {w : World} {st : Except Nat (List Int)} {N : Nat} (h : DW b B w st N)  (hN : N ≤ 17592186044400) :
    Calls Tryd.prog 36 #[.pointer (some ⟨b, 0, none⟩), .agg #[.int .i64 6, .bool false, .int .i64 0], .bool true] w (DA b B w (thenW st (svW true ⟨6, false, 0⟩)) (N + 1)) := by
  have E : Hid (thenW (thenW st (needW true 4)) (.ok [120]) = thenW st (svW true ⟨6, false, 0⟩)) := sv_eq (fun _ => by unfold svW storW; rw [if_pos rfl, if_pos (by simp), plain_good, codeR_some codeW36]) (fun _ => by contradiction)
  have S0 : Hid (DW b B (w.alloc (.cells #[.int .i64 6, .bool false, .int .i64 0] 23)) st N) := h.grew ((Grew.refl w).alloc _)
  have T0 : Hid (WT b B w (w.alloc (.cells #[.int .i64 6, .bool false, .int .i64 0] 23))) := WT.of_grew ((Grew.refl w).alloc _)
  have hbx : (w.alloc (.cells #[.int .i64 6, .bool false, .int .i64 0] 23)).heap[w.heap.size]? = some (.cells #[.int .i64 6, .bool false, .int .i64 0] 23 (0, 0)) := heap_alloc_last w _
  have hb : b < w.heap.size := h.blt
  have hnP : w.heap.size ≠ b := by omega
  clear h
  go_enter Tryd.func36, Tryd.ntmps36
  go_wp2_with fail
  refine (must_any S0.out true 4 (by decide)).mono ?_
  rintro en w1 ⟨rfl, t1, s1⟩
  have T1 : Hid (WT b B w w1) := T0.out.trans t1
  have S1 : Hid (DW b B w1 (thenW st (needW true 4)) N) := s1
  have bxP1 : w1.heap[w.heap.size]? = some (.cells #[.int .i64 6, .bool false, .int .i64 0] 23 (0, 0)) := t1.other hbx hnP (NoT.of hbx (by decide))
  have fP0 := cell_of bxP1 0
  have fP1 := cell_of bxP1 1
  have fP2 := cell_of bxP1 2
  simp at fP0 fP1 fP2
  clear t1 s1 T0 S0 hbx
  obtain ⟨o1, e1, l1, h11, h21, h31, h41⟩ := S1.out.ex
  obtain ⟨oa1, oc1, rfl⟩ := row_one h21
  have c01 := cell_of h11 0
  simp at c01
  have R1 : Hid (w1.ownsRow B 5 1 (.slice oa1 l1.length oc1) l1.length (U8 l1)) := h21
  have O1 : Hid (w1.heap[b]? = some (dob (.slice oa1 l1.length oc1) e1)) := h11
  have E1 : Hid (StE (thenW st (needW true 4)) l1 e1) := h41
  have hlb1 : b < B := S1.out.lt
  have hBl1 : B ≤ w1.heap.size := S1.out.le
  clear h11 h21 h41
  go_wp2_with (
    at_builtin
    refine wp_appG (w := (w1.alloc (.cells #[.int .u8 120] 5))) (v := .slice oa1 l1.length oc1) (u := .slice (some ⟨w1.heap.size, 0, none⟩) 1 1) (r := [120]) rfl _ _ rfl rfl rfl (World.ownsRow.alloc R1.out _) (by simp; omega) (reads_new _ _ _) (by simp; omega) ?_
    intro v2 x2 ho2 hg2
    obtain ⟨a2, cc2, hv2⟩ := row_one ho2
    rw [List.length_append] at hv2
    subst hv2
    have A2 := dw_app (b := b) (B := B) (w := (w1.alloc (.cells #[.int .u8 120] 5))) (st := thenW st (needW true 4)) (N := N) (r := [120]) (heap_alloc O1.out _) (World.ownsRow.alloc R1.out _) h31 E1.out hlb1 (by simp; omega) ho2 hg2
    have q2 := cell_of A2.1 0
    have z2 := free_of A2.1 0
    simp at q2
    have HA2 : Hid (WT b B (w1.alloc (.cells #[.int .u8 120] 5)) (x2.setCell ⟨b, 0, none⟩ (.slice a2 (l1.length + [(120 : Int)].length) cc2)) ∧ DW b B (x2.setCell ⟨b, 0, none⟩ (.slice a2 (l1.length + [(120 : Int)].length) cc2)) (thenW (thenW st (needW true 4)) (.ok [120])) (N + [(120 : Int)].length)) := A2.2
    have tt2 := A2.2.1
    clear A2 hg2 ho2 tt2 )
  have T2 : Hid (WT b B w (x2.setCell ⟨b, 0, none⟩ (.slice a2 (l1.length + 1) cc2))) := (T1.out.trans (WT.of_grew ((Grew.refl _).alloc _))).trans HA2.out.1
  have S2 : Hid (DW b B (x2.setCell ⟨b, 0, none⟩ (.slice a2 (l1.length + 1) cc2)) (thenW (thenW st (needW true 4)) (.ok [120])) (N + 1)) := HA2.out.2
  clear HA2 q2 z2 T1 S1 c01 R1 O1 E1 hlb1 hBl1 h31
  go_end0
  exact ⟨rfl, T2.out, by rw [← E.out]; exact S2.out.mono (by omega)⟩
set_option maxRecDepth 100000 in
set_option maxHeartbeats 2000000 in
theorem dv_six_t_null {b B : Nat} {w : World} {st : Except Nat (List Int)} {N : Nat} (h : DW b B w st N)  (hp : Int) (hN : N ≤ 17592186044400) :
    Calls Tryd.prog 36 #[.pointer (some ⟨b, 0, none⟩), .agg #[.int .i64 6, .bool true, .int .i64 hp], .bool true] w (DA b B w (thenW st (svW true ⟨6, true, hp⟩)) (N + 1)) := by
  have E : Hid (thenW (thenW st (needW false 4)) (.ok [120]) = thenW st (svW true ⟨6, true, hp⟩)) := sv_eq (fun _ => by contradiction) (fun _ => by unfold svW storW; rw [if_pos rfl, if_pos (by simp)]; exact plain_bad (Or.inl rfl))
  have S0 : Hid (DW b B (w.alloc (.cells #[.int .i64 6, .bool true, .int .i64 hp] 23)) st N) := h.grew ((Grew.refl w).alloc _)
  have T0 : Hid (WT b B w (w.alloc (.cells #[.int .i64 6, .bool true, .int .i64 hp] 23))) := WT.of_grew ((Grew.refl w).alloc _)
  have hbx : (w.alloc (.cells #[.int .i64 6, .bool true, .int .i64 hp] 23)).heap[w.heap.size]? = some (.cells #[.int .i64 6, .bool true, .int .i64 hp] 23 (0, 0)) := heap_alloc_last w _
  have hb : b < w.heap.size := h.blt
  have hnP : w.heap.size ≠ b := by omega
  clear h
  go_enter Tryd.func36, Tryd.ntmps36
  go_wp2_with fail
  refine (must_any S0.out false 4 (by decide)).mono ?_
  rintro en w1 ⟨rfl, t1, s1⟩
  have T1 : Hid (WT b B w w1) := T0.out.trans t1
  have S1 : Hid (DW b B w1 (thenW st (needW false 4)) N) := s1
  have bxP1 : w1.heap[w.heap.size]? = some (.cells #[.int .i64 6, .bool true, .int .i64 hp] 23 (0, 0)) := t1.other hbx hnP (NoT.of hbx (by decide))
  have fP0 := cell_of bxP1 0
  have fP1 := cell_of bxP1 1
  have fP2 := cell_of bxP1 2
  simp at fP0 fP1 fP2
  clear t1 s1 T0 S0 hbx
  obtain ⟨o1, e1, l1, h11, h21, h31, h41⟩ := S1.out.ex
  obtain ⟨oa1, oc1, rfl⟩ := row_one h21
  have c01 := cell_of h11 0
  simp at c01
  have R1 : Hid (w1.ownsRow B 5 1 (.slice oa1 l1.length oc1) l1.length (U8 l1)) := h21
  have O1 : Hid (w1.heap[b]? = some (dob (.slice oa1 l1.length oc1) e1)) := h11
  have E1 : Hid (StE (thenW st (needW false 4)) l1 e1) := h41
  have hlb1 : b < B := S1.out.lt
  have hBl1 : B ≤ w1.heap.size := S1.out.le
  clear h11 h21 h41
  go_wp2_with (
    at_builtin
    refine wp_appG (w := (w1.alloc (.cells #[.int .u8 120] 5))) (v := .slice oa1 l1.length oc1) (u := .slice (some ⟨w1.heap.size, 0, none⟩) 1 1) (r := [120]) rfl _ _ rfl rfl rfl (World.ownsRow.alloc R1.out _) (by simp; omega) (reads_new _ _ _) (by simp; omega) ?_
    intro v2 x2 ho2 hg2
    obtain ⟨a2, cc2, hv2⟩ := row_one ho2
    rw [List.length_append] at hv2
    subst hv2
    have A2 := dw_app (b := b) (B := B) (w := (w1.alloc (.cells #[.int .u8 120] 5))) (st := thenW st (needW false 4)) (N := N) (r := [120]) (heap_alloc O1.out _) (World.ownsRow.alloc R1.out _) h31 E1.out hlb1 (by simp; omega) ho2 hg2
    have q2 := cell_of A2.1 0
    have z2 := free_of A2.1 0
    simp at q2
    have HA2 : Hid (WT b B (w1.alloc (.cells #[.int .u8 120] 5)) (x2.setCell ⟨b, 0, none⟩ (.slice a2 (l1.length + [(120 : Int)].length) cc2)) ∧ DW b B (x2.setCell ⟨b, 0, none⟩ (.slice a2 (l1.length + [(120 : Int)].length) cc2)) (thenW (thenW st (needW false 4)) (.ok [120])) (N + [(120 : Int)].length)) := A2.2
    have tt2 := A2.2.1
    clear A2 hg2 ho2 tt2 )
  have T2 : Hid (WT b B w (x2.setCell ⟨b, 0, none⟩ (.slice a2 (l1.length + 1) cc2))) := (T1.out.trans (WT.of_grew ((Grew.refl _).alloc _))).trans HA2.out.1
  have S2 : Hid (DW b B (x2.setCell ⟨b, 0, none⟩ (.slice a2 (l1.length + 1) cc2)) (thenW (thenW st (needW false 4)) (.ok [120])) (N + 1)) := HA2.out.2
  clear HA2 q2 z2 T1 S1 c01 R1 O1 E1 hlb1 hBl1 h31
  go_end0
  exact ⟨rfl, T2.out, by rw [← E.out]; exact S2.out.mono (by omega)⟩
set_option maxRecDepth 100000 in
set_option maxHeartbeats 2000000 in
theorem dv_six_t_heap {b B : Nat} {w : World} {st : Except Nat (List Int)} {N : Nat} (h : DW b B w st N)  (hp : Int) (hh : hp ≠ 0) (hN : N ≤ 17592186044400) :
    Calls Tryd.prog 36 #[.pointer (some ⟨b, 0, none⟩), .agg #[.int .i64 6, .bool false, .int .i64 hp], .bool true] w (DA b B w (thenW st (svW true ⟨6, false, hp⟩)) (N + 1)) := by
  have dhp : (hp == 0) = false := by simpa using hh
  have E : Hid (thenW (thenW st (needW false 4)) (.ok [120]) = thenW st (svW true ⟨6, false, hp⟩)) := sv_eq (fun _ => by contradiction) (fun _ => by unfold svW storW; rw [if_pos rfl, if_pos (by simp)]; exact plain_bad (Or.inr hh))
  have S0 : Hid (DW b B (w.alloc (.cells #[.int .i64 6, .bool false, .int .i64 hp] 23)) st N) := h.grew ((Grew.refl w).alloc _)
  have T0 : Hid (WT b B w (w.alloc (.cells #[.int .i64 6, .bool false, .int .i64 hp] 23))) := WT.of_grew ((Grew.refl w).alloc _)
  have hbx : (w.alloc (.cells #[.int .i64 6, .bool false, .int .i64 hp] 23)).heap[w.heap.size]? = some (.cells #[.int .i64 6, .bool false, .int .i64 hp] 23 (0, 0)) := heap_alloc_last w _
  have hb : b < w.heap.size := h.blt
  have hnP : w.heap.size ≠ b := by omega
  clear h
  go_enter Tryd.func36, Tryd.ntmps36
  go_wp2_with fail
  refine (must_any S0.out false 4 (by decide)).mono ?_
  rintro en w1 ⟨rfl, t1, s1⟩
  have T1 : Hid (WT b B w w1) := T0.out.trans t1
  have S1 : Hid (DW b B w1 (thenW st (needW false 4)) N) := s1
  have bxP1 : w1.heap[w.heap.size]? = some (.cells #[.int .i64 6, .bool false, .int .i64 hp] 23 (0, 0)) := t1.other hbx hnP (NoT.of hbx (by decide))
  have fP0 := cell_of bxP1 0
  have fP1 := cell_of bxP1 1
  have fP2 := cell_of bxP1 2
  simp at fP0 fP1 fP2
  clear t1 s1 T0 S0 hbx
  obtain ⟨o1, e1, l1, h11, h21, h31, h41⟩ := S1.out.ex
  obtain ⟨oa1, oc1, rfl⟩ := row_one h21
  have c01 := cell_of h11 0
  simp at c01
  have R1 : Hid (w1.ownsRow B 5 1 (.slice oa1 l1.length oc1) l1.length (U8 l1)) := h21
  have O1 : Hid (w1.heap[b]? = some (dob (.slice oa1 l1.length oc1) e1)) := h11
  have E1 : Hid (StE (thenW st (needW false 4)) l1 e1) := h41
  have hlb1 : b < B := S1.out.lt
  have hBl1 : B ≤ w1.heap.size := S1.out.le
  clear h11 h21 h41
  go_wp2_with (
    at_builtin
    refine wp_appG (w := (w1.alloc (.cells #[.int .u8 120] 5))) (v := .slice oa1 l1.length oc1) (u := .slice (some ⟨w1.heap.size, 0, none⟩) 1 1) (r := [120]) rfl _ _ rfl rfl rfl (World.ownsRow.alloc R1.out _) (by simp; omega) (reads_new _ _ _) (by simp; omega) ?_
    intro v2 x2 ho2 hg2
    obtain ⟨a2, cc2, hv2⟩ := row_one ho2
    rw [List.length_append] at hv2
    subst hv2
    have A2 := dw_app (b := b) (B := B) (w := (w1.alloc (.cells #[.int .u8 120] 5))) (st := thenW st (needW false 4)) (N := N) (r := [120]) (heap_alloc O1.out _) (World.ownsRow.alloc R1.out _) h31 E1.out hlb1 (by simp; omega) ho2 hg2
    have q2 := cell_of A2.1 0
    have z2 := free_of A2.1 0
    simp at q2
    have HA2 : Hid (WT b B (w1.alloc (.cells #[.int .u8 120] 5)) (x2.setCell ⟨b, 0, none⟩ (.slice a2 (l1.length + [(120 : Int)].length) cc2)) ∧ DW b B (x2.setCell ⟨b, 0, none⟩ (.slice a2 (l1.length + [(120 : Int)].length) cc2)) (thenW (thenW st (needW false 4)) (.ok [120])) (N + [(120 : Int)].length)) := A2.2
    have tt2 := A2.2.1
    clear A2 hg2 ho2 tt2 )
  have T2 : Hid (WT b B w (x2.setCell ⟨b, 0, none⟩ (.slice a2 (l1.length + 1) cc2))) := (T1.out.trans (WT.of_grew ((Grew.refl _).alloc _))).trans HA2.out.1
  have S2 : Hid (DW b B (x2.setCell ⟨b, 0, none⟩ (.slice a2 (l1.length + 1) cc2)) (thenW (thenW st (needW false 4)) (.ok [120])) (N + 1)) := HA2.out.2
  clear HA2 q2 z2 T1 S1 c01 R1 O1 E1 hlb1 hBl1 h31
  go_end0
  exact ⟨rfl, T2.out, by rw [← E.out]; exact S2.out.mono (by omega)⟩
set_option maxRecDepth 100000 in
set_option maxHeartbeats 2000000 in
theorem dv_six_f_good {b B : Nat} {w : World} {st : Except Nat (List Int)} {N : Nat} (h : DW b B w st N)  (hN : N ≤ 17592186044400) :
    Calls Tryd.prog 36 #[.pointer (some ⟨b, 0, none⟩), .agg #[.int .i64 6, .bool false, .int .i64 0], .bool false] w (DA b B w (thenW st (svW false ⟨6, false, 0⟩)) (N + 1)) := by
  have E : Hid (thenW (thenW st (needW false 4)) (.ok [120]) = thenW st (svW false ⟨6, false, 0⟩)) := sv_eq (fun _ => by contradiction) (fun _ => by unfold svW valW; rw [if_neg (by simp), if_neg (by simp), plain_good, codeR_none (codeW1_out (by omega))])
  have S0 : Hid (DW b B (w.alloc (.cells #[.int .i64 6, .bool false, .int .i64 0] 23)) st N) := h.grew ((Grew.refl w).alloc _)
  have T0 : Hid (WT b B w (w.alloc (.cells #[.int .i64 6, .bool false, .int .i64 0] 23))) := WT.of_grew ((Grew.refl w).alloc _)
  have hbx : (w.alloc (.cells #[.int .i64 6, .bool false, .int .i64 0] 23)).heap[w.heap.size]? = some (.cells #[.int .i64 6, .bool false, .int .i64 0] 23 (0, 0)) := heap_alloc_last w _
  have hb : b < w.heap.size := h.blt
  have hnP : w.heap.size ≠ b := by omega
  clear h
  go_enter Tryd.func36, Tryd.ntmps36
  go_wp2_with fail
  refine (must_any S0.out false 4 (by decide)).mono ?_
  rintro en w1 ⟨rfl, t1, s1⟩
  have T1 : Hid (WT b B w w1) := T0.out.trans t1
  have S1 : Hid (DW b B w1 (thenW st (needW false 4)) N) := s1
  have bxP1 : w1.heap[w.heap.size]? = some (.cells #[.int .i64 6, .bool false, .int .i64 0] 23 (0, 0)) := t1.other hbx hnP (NoT.of hbx (by decide))
  have fP0 := cell_of bxP1 0
  have fP1 := cell_of bxP1 1
  have fP2 := cell_of bxP1 2
  simp at fP0 fP1 fP2
  clear t1 s1 T0 S0 hbx
  obtain ⟨o1, e1, l1, h11, h21, h31, h41⟩ := S1.out.ex
  obtain ⟨oa1, oc1, rfl⟩ := row_one h21
  have c01 := cell_of h11 0
  simp at c01
  have R1 : Hid (w1.ownsRow B 5 1 (.slice oa1 l1.length oc1) l1.length (U8 l1)) := h21
  have O1 : Hid (w1.heap[b]? = some (dob (.slice oa1 l1.length oc1) e1)) := h11
  have E1 : Hid (StE (thenW st (needW false 4)) l1 e1) := h41
  have hlb1 : b < B := S1.out.lt
  have hBl1 : B ≤ w1.heap.size := S1.out.le
  clear h11 h21 h41
  go_wp2_with (
    at_builtin
    refine wp_appG (w := (w1.alloc (.cells #[.int .u8 120] 5))) (v := .slice oa1 l1.length oc1) (u := .slice (some ⟨w1.heap.size, 0, none⟩) 1 1) (r := [120]) rfl _ _ rfl rfl rfl (World.ownsRow.alloc R1.out _) (by simp; omega) (reads_new _ _ _) (by simp; omega) ?_
    intro v2 x2 ho2 hg2
    obtain ⟨a2, cc2, hv2⟩ := row_one ho2
    rw [List.length_append] at hv2
    subst hv2
    have A2 := dw_app (b := b) (B := B) (w := (w1.alloc (.cells #[.int .u8 120] 5))) (st := thenW st (needW false 4)) (N := N) (r := [120]) (heap_alloc O1.out _) (World.ownsRow.alloc R1.out _) h31 E1.out hlb1 (by simp; omega) ho2 hg2
    have q2 := cell_of A2.1 0
    have z2 := free_of A2.1 0
    simp at q2
    have HA2 : Hid (WT b B (w1.alloc (.cells #[.int .u8 120] 5)) (x2.setCell ⟨b, 0, none⟩ (.slice a2 (l1.length + [(120 : Int)].length) cc2)) ∧ DW b B (x2.setCell ⟨b, 0, none⟩ (.slice a2 (l1.length + [(120 : Int)].length) cc2)) (thenW (thenW st (needW false 4)) (.ok [120])) (N + [(120 : Int)].length)) := A2.2
    have tt2 := A2.2.1
    clear A2 hg2 ho2 tt2 )
  have T2 : Hid (WT b B w (x2.setCell ⟨b, 0, none⟩ (.slice a2 (l1.length + 1) cc2))) := (T1.out.trans (WT.of_grew ((Grew.refl _).alloc _))).trans HA2.out.1
  have S2 : Hid (DW b B (x2.setCell ⟨b, 0, none⟩ (.slice a2 (l1.length + 1) cc2)) (thenW (thenW st (needW false 4)) (.ok [120])) (N + 1)) := HA2.out.2
  clear HA2 q2 z2 T1 S1 c01 R1 O1 E1 hlb1 hBl1 h31
  go_end0
  exact ⟨rfl, T2.out, by rw [← E.out]; exact S2.out.mono (by omega)⟩
set_option maxRecDepth 100000 in
set_option maxHeartbeats 2000000 in
theorem dv_six_f_null {b B : Nat} {w : World} {st : Except Nat (List Int)} {N : Nat} (h : DW b B w st N)  (hp : Int) (hN : N ≤ 17592186044400) :
    Calls Tryd.prog 36 #[.pointer (some ⟨b, 0, none⟩), .agg #[.int .i64 6, .bool true, .int .i64 hp], .bool false] w (DA b B w (thenW st (svW false ⟨6, true, hp⟩)) (N + 1)) := by
  have E : Hid (thenW (thenW st (needW false 4)) (.ok [120]) = thenW st (svW false ⟨6, true, hp⟩)) := sv_eq (fun _ => by contradiction) (fun _ => by unfold svW valW; rw [if_neg (by simp), if_neg (by simp)]; exact plain_bad (Or.inl rfl))
  have S0 : Hid (DW b B (w.alloc (.cells #[.int .i64 6, .bool true, .int .i64 hp] 23)) st N) := h.grew ((Grew.refl w).alloc _)
  have T0 : Hid (WT b B w (w.alloc (.cells #[.int .i64 6, .bool true, .int .i64 hp] 23))) := WT.of_grew ((Grew.refl w).alloc _)
  have hbx : (w.alloc (.cells #[.int .i64 6, .bool true, .int .i64 hp] 23)).heap[w.heap.size]? = some (.cells #[.int .i64 6, .bool true, .int .i64 hp] 23 (0, 0)) := heap_alloc_last w _
  have hb : b < w.heap.size := h.blt
  have hnP : w.heap.size ≠ b := by omega
  clear h
  go_enter Tryd.func36, Tryd.ntmps36
  go_wp2_with fail
  refine (must_any S0.out false 4 (by decide)).mono ?_
  rintro en w1 ⟨rfl, t1, s1⟩
  have T1 : Hid (WT b B w w1) := T0.out.trans t1
  have S1 : Hid (DW b B w1 (thenW st (needW false 4)) N) := s1
  have bxP1 : w1.heap[w.heap.size]? = some (.cells #[.int .i64 6, .bool true, .int .i64 hp] 23 (0, 0)) := t1.other hbx hnP (NoT.of hbx (by decide))
  have fP0 := cell_of bxP1 0
  have fP1 := cell_of bxP1 1
  have fP2 := cell_of bxP1 2
  simp at fP0 fP1 fP2
  clear t1 s1 T0 S0 hbx
  obtain ⟨o1, e1, l1, h11, h21, h31, h41⟩ := S1.out.ex
  obtain ⟨oa1, oc1, rfl⟩ := row_one h21
  have c01 := cell_of h11 0
  simp at c01
  have R1 : Hid (w1.ownsRow B 5 1 (.slice oa1 l1.length oc1) l1.length (U8 l1)) := h21
  have O1 : Hid (w1.heap[b]? = some (dob (.slice oa1 l1.length oc1) e1)) := h11
  have E1 : Hid (StE (thenW st (needW false 4)) l1 e1) := h41
  have hlb1 : b < B := S1.out.lt
  have hBl1 : B ≤ w1.heap.size := S1.out.le
  clear h11 h21 h41
  go_wp2_with (
    at_builtin
    refine wp_appG (w := (w1.alloc (.cells #[.int .u8 120] 5))) (v := .slice oa1 l1.length oc1) (u := .slice (some ⟨w1.heap.size, 0, none⟩) 1 1) (r := [120]) rfl _ _ rfl rfl rfl (World.ownsRow.alloc R1.out _) (by simp; omega) (reads_new _ _ _) (by simp; omega) ?_
    intro v2 x2 ho2 hg2
    obtain ⟨a2, cc2, hv2⟩ := row_one ho2
    rw [List.length_append] at hv2
    subst hv2
    have A2 := dw_app (b := b) (B := B) (w := (w1.alloc (.cells #[.int .u8 120] 5))) (st := thenW st (needW false 4)) (N := N) (r := [120]) (heap_alloc O1.out _) (World.ownsRow.alloc R1.out _) h31 E1.out hlb1 (by simp; omega) ho2 hg2
    have q2 := cell_of A2.1 0
    have z2 := free_of A2.1 0
    simp at q2
    have HA2 : Hid (WT b B (w1.alloc (.cells #[.int .u8 120] 5)) (x2.setCell ⟨b, 0, none⟩ (.slice a2 (l1.length + [(120 : Int)].length) cc2)) ∧ DW b B (x2.setCell ⟨b, 0, none⟩ (.slice a2 (l1.length + [(120 : Int)].length) cc2)) (thenW (thenW st (needW false 4)) (.ok [120])) (N + [(120 : Int)].length)) := A2.2
    have tt2 := A2.2.1
    clear A2 hg2 ho2 tt2 )
  have T2 : Hid (WT b B w (x2.setCell ⟨b, 0, none⟩ (.slice a2 (l1.length + 1) cc2))) := (T1.out.trans (WT.of_grew ((Grew.refl _).alloc _))).trans HA2.out.1
  have S2 : Hid (DW b B (x2.setCell ⟨b, 0, none⟩ (.slice a2 (l1.length + 1) cc2)) (thenW (thenW st (needW false 4)) (.ok [120])) (N + 1)) := HA2.out.2
  clear HA2 q2 z2 T1 S1 c01 R1 O1 E1 hlb1 hBl1 h31
  go_end0
  exact ⟨rfl, T2.out, by rw [← E.out]; exact S2.out.mono (by omega)⟩
set_option maxRecDepth 100000 in
set_option maxHeartbeats 2000000 in
theorem dv_six_f_heap {b B : Nat} {w : World} {st : Except Nat (List Int)} {N : Nat} (h : DW b B w st N)  (hp : Int) (hh : hp ≠ 0) (hN : N ≤ 17592186044400) :
    Calls Tryd.prog 36 #[.pointer (some ⟨b, 0, none⟩), .agg #[.int .i64 6, .bool false, .int .i64 hp], .bool false] w (DA b B w (thenW st (svW false ⟨6, false, hp⟩)) (N + 1)) := by
  have dhp : (hp == 0) = false := by simpa using hh
  have E : Hid (thenW (thenW st (needW false 4)) (.ok [120]) = thenW st (svW false ⟨6, false, hp⟩)) := sv_eq (fun _ => by contradiction) (fun _ => by unfold svW valW; rw [if_neg (by simp), if_neg (by simp)]; exact plain_bad (Or.inr hh))
  have S0 : Hid (DW b B (w.alloc (.cells #[.int .i64 6, .bool false, .int .i64 hp] 23)) st N) := h.grew ((Grew.refl w).alloc _)
  have T0 : Hid (WT b B w (w.alloc (.cells #[.int .i64 6, .bool false, .int .i64 hp] 23))) := WT.of_grew ((Grew.refl w).alloc _)
  have hbx : (w.alloc (.cells #[.int .i64 6, .bool false, .int .i64 hp] 23)).heap[w.heap.size]? = some (.cells #[.int .i64 6, .bool false, .int .i64 hp] 23 (0, 0)) := heap_alloc_last w _
  have hb : b < w.heap.size := h.blt
  have hnP : w.heap.size ≠ b := by omega
  clear h
  go_enter Tryd.func36, Tryd.ntmps36
  go_wp2_with fail
  refine (must_any S0.out false 4 (by decide)).mono ?_
  rintro en w1 ⟨rfl, t1, s1⟩
  have T1 : Hid (WT b B w w1) := T0.out.trans t1
  have S1 : Hid (DW b B w1 (thenW st (needW false 4)) N) := s1
  have bxP1 : w1.heap[w.heap.size]? = some (.cells #[.int .i64 6, .bool false, .int .i64 hp] 23 (0, 0)) := t1.other hbx hnP (NoT.of hbx (by decide))
  have fP0 := cell_of bxP1 0
  have fP1 := cell_of bxP1 1
  have fP2 := cell_of bxP1 2
  simp at fP0 fP1 fP2
  clear t1 s1 T0 S0 hbx
  obtain ⟨o1, e1, l1, h11, h21, h31, h41⟩ := S1.out.ex
  obtain ⟨oa1, oc1, rfl⟩ := row_one h21
  have c01 := cell_of h11 0
  simp at c01
  have R1 : Hid (w1.ownsRow B 5 1 (.slice oa1 l1.length oc1) l1.length (U8 l1)) := h21
  have O1 : Hid (w1.heap[b]? = some (dob (.slice oa1 l1.length oc1) e1)) := h11
  have E1 : Hid (StE (thenW st (needW false 4)) l1 e1) := h41
  have hlb1 : b < B := S1.out.lt
  have hBl1 : B ≤ w1.heap.size := S1.out.le
  clear h11 h21 h41
  go_wp2_with (
    at_builtin
    refine wp_appG (w := (w1.alloc (.cells #[.int .u8 120] 5))) (v := .slice oa1 l1.length oc1) (u := .slice (some ⟨w1.heap.size, 0, none⟩) 1 1) (r := [120]) rfl _ _ rfl rfl rfl (World.ownsRow.alloc R1.out _) (by simp; omega) (reads_new _ _ _) (by simp; omega) ?_
    intro v2 x2 ho2 hg2
    obtain ⟨a2, cc2, hv2⟩ := row_one ho2
    rw [List.length_append] at hv2
    subst hv2
    have A2 := dw_app (b := b) (B := B) (w := (w1.alloc (.cells #[.int .u8 120] 5))) (st := thenW st (needW false 4)) (N := N) (r := [120]) (heap_alloc O1.out _) (World.ownsRow.alloc R1.out _) h31 E1.out hlb1 (by simp; omega) ho2 hg2
    have q2 := cell_of A2.1 0
    have z2 := free_of A2.1 0
    simp at q2
    have HA2 : Hid (WT b B (w1.alloc (.cells #[.int .u8 120] 5)) (x2.setCell ⟨b, 0, none⟩ (.slice a2 (l1.length + [(120 : Int)].length) cc2)) ∧ DW b B (x2.setCell ⟨b, 0, none⟩ (.slice a2 (l1.length + [(120 : Int)].length) cc2)) (thenW (thenW st (needW false 4)) (.ok [120])) (N + [(120 : Int)].length)) := A2.2
    have tt2 := A2.2.1
    clear A2 hg2 ho2 tt2 )
  have T2 : Hid (WT b B w (x2.setCell ⟨b, 0, none⟩ (.slice a2 (l1.length + 1) cc2))) := (T1.out.trans (WT.of_grew ((Grew.refl _).alloc _))).trans HA2.out.1
  have S2 : Hid (DW b B (x2.setCell ⟨b, 0, none⟩ (.slice a2 (l1.length + 1) cc2)) (thenW (thenW st (needW false 4)) (.ok [120])) (N + 1)) := HA2.out.2
  clear HA2 q2 z2 T1 S1 c01 R1 O1 E1 hlb1 hBl1 h31
  go_end0
  exact ⟨rfl, T2.out, by rw [← E.out]; exact S2.out.mono (by omega)⟩
set_option maxRecDepth 100000 in
set_option maxHeartbeats 2000000 in
theorem dv_seven_t_good {b B : Nat} {w : World} {st : Except Nat (List Int)} {N : Nat} (h : DW b B w st N)  (hN : N ≤ 17592186044400) :
    Calls Tryd.prog 36 #[.pointer (some ⟨b, 0, none⟩), .agg #[.int .i64 7, .bool false, .int .i64 0], .bool true] w (DA b B w (thenW st (svW true ⟨7, false, 0⟩)) (N + 1)) := by
  have E : Hid (thenW (thenW st (needW true 4)) (.ok [119]) = thenW st (svW true ⟨7, false, 0⟩)) := sv_eq (fun _ => by unfold svW storW; rw [if_pos rfl, if_pos (by simp), plain_good, codeR_some codeW37]) (fun _ => by contradiction)
  have S0 : Hid (DW b B (w.alloc (.cells #[.int .i64 7, .bool false, .int .i64 0] 23)) st N) := h.grew ((Grew.refl w).alloc _)
  have T0 : Hid (WT b B w (w.alloc (.cells #[.int .i64 7, .bool false, .int .i64 0] 23))) := WT.of_grew ((Grew.refl w).alloc _)
  have hbx : (w.alloc (.cells #[.int .i64 7, .bool false, .int .i64 0] 23)).heap[w.heap.size]? = some (.cells #[.int .i64 7, .bool false, .int .i64 0] 23 (0, 0)) := heap_alloc_last w _
  have hb : b < w.heap.size := h.blt
  have hnP : w.heap.size ≠ b := by omega
  clear h
  go_enter Tryd.func36, Tryd.ntmps36
  go_wp2_with fail
  refine (must_any S0.out true 4 (by decide)).mono ?_
  rintro en w1 ⟨rfl, t1, s1⟩
  have T1 : Hid (WT b B w w1) := T0.out.trans t1
  have S1 : Hid (DW b B w1 (thenW st (needW true 4)) N) := s1
  have bxP1 : w1.heap[w.heap.size]? = some (.cells #[.int .i64 7, .bool false, .int .i64 0] 23 (0, 0)) := t1.other hbx hnP (NoT.of hbx (by decide))
  have fP0 := cell_of bxP1 0
  have fP1 := cell_of bxP1 1
  have fP2 := cell_of bxP1 2
  simp at fP0 fP1 fP2
  clear t1 s1 T0 S0 hbx
  obtain ⟨o1, e1, l1, h11, h21, h31, h41⟩ := S1.out.ex
  obtain ⟨oa1, oc1, rfl⟩ := row_one h21
  have c01 := cell_of h11 0
  simp at c01
  have R1 : Hid (w1.ownsRow B 5 1 (.slice oa1 l1.length oc1) l1.length (U8 l1)) := h21
  have O1 : Hid (w1.heap[b]? = some (dob (.slice oa1 l1.length oc1) e1)) := h11
  have E1 : Hid (StE (thenW st (needW true 4)) l1 e1) := h41
  have hlb1 : b < B := S1.out.lt
  have hBl1 : B ≤ w1.heap.size := S1.out.le
  clear h11 h21 h41
  go_wp2_with (
    at_builtin
    refine wp_appG (w := (w1.alloc (.cells #[.int .u8 119] 5))) (v := .slice oa1 l1.length oc1) (u := .slice (some ⟨w1.heap.size, 0, none⟩) 1 1) (r := [119]) rfl _ _ rfl rfl rfl (World.ownsRow.alloc R1.out _) (by simp; omega) (reads_new _ _ _) (by simp; omega) ?_
    intro v2 x2 ho2 hg2
    obtain ⟨a2, cc2, hv2⟩ := row_one ho2
    rw [List.length_append] at hv2
    subst hv2
    have A2 := dw_app (b := b) (B := B) (w := (w1.alloc (.cells #[.int .u8 119] 5))) (st := thenW st (needW true 4)) (N := N) (r := [119]) (heap_alloc O1.out _) (World.ownsRow.alloc R1.out _) h31 E1.out hlb1 (by simp; omega) ho2 hg2
    have q2 := cell_of A2.1 0
    have z2 := free_of A2.1 0
    simp at q2
    have HA2 : Hid (WT b B (w1.alloc (.cells #[.int .u8 119] 5)) (x2.setCell ⟨b, 0, none⟩ (.slice a2 (l1.length + [(119 : Int)].length) cc2)) ∧ DW b B (x2.setCell ⟨b, 0, none⟩ (.slice a2 (l1.length + [(119 : Int)].length) cc2)) (thenW (thenW st (needW true 4)) (.ok [119])) (N + [(119 : Int)].length)) := A2.2
    have tt2 := A2.2.1
    clear A2 hg2 ho2 tt2 )
  have T2 : Hid (WT b B w (x2.setCell ⟨b, 0, none⟩ (.slice a2 (l1.length + 1) cc2))) := (T1.out.trans (WT.of_grew ((Grew.refl _).alloc _))).trans HA2.out.1
  have S2 : Hid (DW b B (x2.setCell ⟨b, 0, none⟩ (.slice a2 (l1.length + 1) cc2)) (thenW (thenW st (needW true 4)) (.ok [119])) (N + 1)) := HA2.out.2
  clear HA2 q2 z2 T1 S1 c01 R1 O1 E1 hlb1 hBl1 h31
  go_end0
  exact ⟨rfl, T2.out, by rw [← E.out]; exact S2.out.mono (by omega)⟩
set_option maxRecDepth 100000 in
set_option maxHeartbeats 2000000 in
theorem dv_seven_t_null {b B : Nat} {w : World} {st : Except Nat (List Int)} {N : Nat} (h : DW b B w st N)  (hp : Int) (hN : N ≤ 17592186044400) :
    Calls Tryd.prog 36 #[.pointer (some ⟨b, 0, none⟩), .agg #[.int .i64 7, .bool true, .int .i64 hp], .bool true] w (DA b B w (thenW st (svW true ⟨7, true, hp⟩)) (N + 1)) := by
  have E : Hid (thenW (thenW st (needW false 4)) (.ok [119]) = thenW st (svW true ⟨7, true, hp⟩)) := sv_eq (fun _ => by contradiction) (fun _ => by unfold svW storW; rw [if_pos rfl, if_pos (by simp)]; exact plain_bad (Or.inl rfl))
  have S0 : Hid (DW b B (w.alloc (.cells #[.int .i64 7, .bool true, .int .i64 hp] 23)) st N) := h.grew ((Grew.refl w).alloc _)
  have T0 : Hid (WT b B w (w.alloc (.cells #[.int .i64 7, .bool true, .int .i64 hp] 23))) := WT.of_grew ((Grew.refl w).alloc _)
  have hbx : (w.alloc (.cells #[.int .i64 7, .bool true, .int .i64 hp] 23)).heap[w.heap.size]? = some (.cells #[.int .i64 7, .bool true, .int .i64 hp] 23 (0, 0)) := heap_alloc_last w _
  have hb : b < w.heap.size := h.blt
  have hnP : w.heap.size ≠ b := by omega
  clear h
  go_enter Tryd.func36, Tryd.ntmps36
  go_wp2_with fail
  refine (must_any S0.out false 4 (by decide)).mono ?_
  rintro en w1 ⟨rfl, t1, s1⟩
  have T1 : Hid (WT b B w w1) := T0.out.trans t1
  have S1 : Hid (DW b B w1 (thenW st (needW false 4)) N) := s1
  have bxP1 : w1.heap[w.heap.size]? = some (.cells #[.int .i64 7, .bool true, .int .i64 hp] 23 (0, 0)) := t1.other hbx hnP (NoT.of hbx (by decide))
  have fP0 := cell_of bxP1 0
  have fP1 := cell_of bxP1 1
  have fP2 := cell_of bxP1 2
  simp at fP0 fP1 fP2
  clear t1 s1 T0 S0 hbx
  obtain ⟨o1, e1, l1, h11, h21, h31, h41⟩ := S1.out.ex
  obtain ⟨oa1, oc1, rfl⟩ := row_one h21
  have c01 := cell_of h11 0
  simp at c01
  have R1 : Hid (w1.ownsRow B 5 1 (.slice oa1 l1.length oc1) l1.length (U8 l1)) := h21
  have O1 : Hid (w1.heap[b]? = some (dob (.slice oa1 l1.length oc1) e1)) := h11
  have E1 : Hid (StE (thenW st (needW false 4)) l1 e1) := h41
  have hlb1 : b < B := S1.out.lt
  have hBl1 : B ≤ w1.heap.size := S1.out.le
  clear h11 h21 h41
  go_wp2_with (
    at_builtin
    refine wp_appG (w := (w1.alloc (.cells #[.int .u8 119] 5))) (v := .slice oa1 l1.length oc1) (u := .slice (some ⟨w1.heap.size, 0, none⟩) 1 1) (r := [119]) rfl _ _ rfl rfl rfl (World.ownsRow.alloc R1.out _) (by simp; omega) (reads_new _ _ _) (by simp; omega) ?_
    intro v2 x2 ho2 hg2
    obtain ⟨a2, cc2, hv2⟩ := row_one ho2
    rw [List.length_append] at hv2
    subst hv2
    have A2 := dw_app (b := b) (B := B) (w := (w1.alloc (.cells #[.int .u8 119] 5))) (st := thenW st (needW false 4)) (N := N) (r := [119]) (heap_alloc O1.out _) (World.ownsRow.alloc R1.out _) h31 E1.out hlb1 (by simp; omega) ho2 hg2
    have q2 := cell_of A2.1 0
    have z2 := free_of A2.1 0
    simp at q2
    have HA2 : Hid (WT b B (w1.alloc (.cells #[.int .u8 119] 5)) (x2.setCell ⟨b, 0, none⟩ (.slice a2 (l1.length + [(119 : Int)].length) cc2)) ∧ DW b B (x2.setCell ⟨b, 0, none⟩ (.slice a2 (l1.length + [(119 : Int)].length) cc2)) (thenW (thenW st (needW false 4)) (.ok [119])) (N + [(119 : Int)].length)) := A2.2
    have tt2 := A2.2.1
    clear A2 hg2 ho2 tt2 )
  have T2 : Hid (WT b B w (x2.setCell ⟨b, 0, none⟩ (.slice a2 (l1.length + 1) cc2))) := (T1.out.trans (WT.of_grew ((Grew.refl _).alloc _))).trans HA2.out.1
  have S2 : Hid (DW b B (x2.setCell ⟨b, 0, none⟩ (.slice a2 (l1.length + 1) cc2)) (thenW (thenW st (needW false 4)) (.ok [119])) (N + 1)) := HA2.out.2
  clear HA2 q2 z2 T1 S1 c01 R1 O1 E1 hlb1 hBl1 h31
  go_end0
  exact ⟨rfl, T2.out, by rw [← E.out]; exact S2.out.mono (by omega)⟩
set_option maxRecDepth 100000 in
set_option maxHeartbeats 2000000 in
theorem dv_seven_t_heap {b B : Nat} {w : World} {st : Except Nat (List Int)} {N : Nat} (h : DW b B w st N)  (hp : Int) (hh : hp ≠ 0) (hN : N ≤ 17592186044400) :
    Calls Tryd.prog 36 #[.pointer (some ⟨b, 0, none⟩), .agg #[.int .i64 7, .bool false, .int .i64 hp], .bool true] w (DA b B w (thenW st (svW true ⟨7, false, hp⟩)) (N + 1)) := by
  have dhp : (hp == 0) = false := by simpa using hh
  have E : Hid (thenW (thenW st (needW false 4)) (.ok [119]) = thenW st (svW true ⟨7, false, hp⟩)) := sv_eq (fun _ => by contradiction) (fun _ => by unfold svW storW; rw [if_pos rfl, if_pos (by simp)]; exact plain_bad (Or.inr hh))
  have S0 : Hid (DW b B (w.alloc (.cells #[.int .i64 7, .bool false, .int .i64 hp] 23)) st N) := h.grew ((Grew.refl w).alloc _)
  have T0 : Hid (WT b B w (w.alloc (.cells #[.int .i64 7, .bool false, .int .i64 hp] 23))) := WT.of_grew ((Grew.refl w).alloc _)
  have hbx : (w.alloc (.cells #[.int .i64 7, .bool false, .int .i64 hp] 23)).heap[w.heap.size]? = some (.cells #[.int .i64 7, .bool false, .int .i64 hp] 23 (0, 0)) := heap_alloc_last w _
  have hb : b < w.heap.size := h.blt
  have hnP : w.heap.size ≠ b := by omega
  clear h
  go_enter Tryd.func36, Tryd.ntmps36
  go_wp2_with fail
  refine (must_any S0.out false 4 (by decide)).mono ?_
  rintro en w1 ⟨rfl, t1, s1⟩
  have T1 : Hid (WT b B w w1) := T0.out.trans t1
  have S1 : Hid (DW b B w1 (thenW st (needW false 4)) N) := s1
  have bxP1 : w1.heap[w.heap.size]? = some (.cells #[.int .i64 7, .bool false, .int .i64 hp] 23 (0, 0)) := t1.other hbx hnP (NoT.of hbx (by decide))
  have fP0 := cell_of bxP1 0
  have fP1 := cell_of bxP1 1
  have fP2 := cell_of bxP1 2
  simp at fP0 fP1 fP2
  clear t1 s1 T0 S0 hbx
  obtain ⟨o1, e1, l1, h11, h21, h31, h41⟩ := S1.out.ex
  obtain ⟨oa1, oc1, rfl⟩ := row_one h21
  have c01 := cell_of h11 0
  simp at c01
  have R1 : Hid (w1.ownsRow B 5 1 (.slice oa1 l1.length oc1) l1.length (U8 l1)) := h21
  have O1 : Hid (w1.heap[b]? = some (dob (.slice oa1 l1.length oc1) e1)) := h11
  have E1 : Hid (StE (thenW st (needW false 4)) l1 e1) := h41
  have hlb1 : b < B := S1.out.lt
  have hBl1 : B ≤ w1.heap.size := S1.out.le
  clear h11 h21 h41
  go_wp2_with (
    at_builtin
    refine wp_appG (w := (w1.alloc (.cells #[.int .u8 119] 5))) (v := .slice oa1 l1.length oc1) (u := .slice (some ⟨w1.heap.size, 0, none⟩) 1 1) (r := [119]) rfl _ _ rfl rfl rfl (World.ownsRow.alloc R1.out _) (by simp; omega) (reads_new _ _ _) (by simp; omega) ?_
    intro v2 x2 ho2 hg2
    obtain ⟨a2, cc2, hv2⟩ := row_one ho2
    rw [List.length_append] at hv2
    subst hv2
    have A2 := dw_app (b := b) (B := B) (w := (w1.alloc (.cells #[.int .u8 119] 5))) (st := thenW st (needW false 4)) (N := N) (r := [119]) (heap_alloc O1.out _) (World.ownsRow.alloc R1.out _) h31 E1.out hlb1 (by simp; omega) ho2 hg2
    have q2 := cell_of A2.1 0
    have z2 := free_of A2.1 0
    simp at q2
    have HA2 : Hid (WT b B (w1.alloc (.cells #[.int .u8 119] 5)) (x2.setCell ⟨b, 0, none⟩ (.slice a2 (l1.length + [(119 : Int)].length) cc2)) ∧ DW b B (x2.setCell ⟨b, 0, none⟩ (.slice a2 (l1.length + [(119 : Int)].length) cc2)) (thenW (thenW st (needW false 4)) (.ok [119])) (N + [(119 : Int)].length)) := A2.2
    have tt2 := A2.2.1
    clear A2 hg2 ho2 tt2 )
  have T2 : Hid (WT b B w (x2.setCell ⟨b, 0, none⟩ (.slice a2 (l1.length + 1) cc2))) := (T1.out.trans (WT.of_grew ((Grew.refl _).alloc _))).trans HA2.out.1
  have S2 : Hid (DW b B (x2.setCell ⟨b, 0, none⟩ (.slice a2 (l1.length + 1) cc2)) (thenW (thenW st (needW false 4)) (.ok [119])) (N + 1)) := HA2.out.2
  clear HA2 q2 z2 T1 S1 c01 R1 O1 E1 hlb1 hBl1 h31
  go_end0
  exact ⟨rfl, T2.out, by rw [← E.out]; exact S2.out.mono (by omega)⟩
set_option maxRecDepth 100000 in
set_option maxHeartbeats 2000000 in
theorem dv_seven_f_good {b B : Nat} {w : World} {st : Except Nat (List Int)} {N : Nat} (h : DW b B w st N)  (hN : N ≤ 17592186044400) :
    Calls Tryd.prog 36 #[.pointer (some ⟨b, 0, none⟩), .agg #[.int .i64 7, .bool false, .int .i64 0], .bool false] w (DA b B w (thenW st (svW false ⟨7, false, 0⟩)) (N + 1)) := by
  have E : Hid (thenW (thenW st (needW false 4)) (.ok [119]) = thenW st (svW false ⟨7, false, 0⟩)) := sv_eq (fun _ => by contradiction) (fun _ => by unfold svW valW; rw [if_neg (by simp), if_neg (by simp), plain_good, codeR_none (codeW1_out (by omega))])
  have S0 : Hid (DW b B (w.alloc (.cells #[.int .i64 7, .bool false, .int .i64 0] 23)) st N) := h.grew ((Grew.refl w).alloc _)
  have T0 : Hid (WT b B w (w.alloc (.cells #[.int .i64 7, .bool false, .int .i64 0] 23))) := WT.of_grew ((Grew.refl w).alloc _)
  have hbx : (w.alloc (.cells #[.int .i64 7, .bool false, .int .i64 0] 23)).heap[w.heap.size]? = some (.cells #[.int .i64 7, .bool false, .int .i64 0] 23 (0, 0)) := heap_alloc_last w _
  have hb : b < w.heap.size := h.blt
  have hnP : w.heap.size ≠ b := by omega
  clear h
  go_enter Tryd.func36, Tryd.ntmps36
  go_wp2_with fail
  refine (must_any S0.out false 4 (by decide)).mono ?_
  rintro en w1 ⟨rfl, t1, s1⟩
  have T1 : Hid (WT b B w w1) := T0.out.trans t1
  have S1 : Hid (DW b B w1 (thenW st (needW false 4)) N) := s1
  have bxP1 : w1.heap[w.heap.size]? = some (.cells #[.int .i64 7, .bool false, .int .i64 0] 23 (0, 0)) := t1.other hbx hnP (NoT.of hbx (by decide))
  have fP0 := cell_of bxP1 0
  have fP1 := cell_of bxP1 1
  have fP2 := cell_of bxP1 2
  simp at fP0 fP1 fP2
  clear t1 s1 T0 S0 hbx
  obtain ⟨o1, e1, l1, h11, h21, h31, h41⟩ := S1.out.ex
  obtain ⟨oa1, oc1, rfl⟩ := row_one h21
  have c01 := cell_of h11 0
  simp at c01
  have R1 : Hid (w1.ownsRow B 5 1 (.slice oa1 l1.length oc1) l1.length (U8 l1)) := h21
  have O1 : Hid (w1.heap[b]? = some (dob (.slice oa1 l1.length oc1) e1)) := h11
  have E1 : Hid (StE (thenW st (needW false 4)) l1 e1) := h41
  have hlb1 : b < B := S1.out.lt
  have hBl1 : B ≤ w1.heap.size := S1.out.le
  clear h11 h21 h41
  go_wp2_with (
    at_builtin
    refine wp_appG (w := (w1.alloc (.cells #[.int .u8 119] 5))) (v := .slice oa1 l1.length oc1) (u := .slice (some ⟨w1.heap.size, 0, none⟩) 1 1) (r := [119]) rfl _ _ rfl rfl rfl (World.ownsRow.alloc R1.out _) (by simp; omega) (reads_new _ _ _) (by simp; omega) ?_
    intro v2 x2 ho2 hg2
    obtain ⟨a2, cc2, hv2⟩ := row_one ho2
    rw [List.length_append] at hv2
    subst hv2
    have A2 := dw_app (b := b) (B := B) (w := (w1.alloc (.cells #[.int .u8 119] 5))) (st := thenW st (needW false 4)) (N := N) (r := [119]) (heap_alloc O1.out _) (World.ownsRow.alloc R1.out _) h31 E1.out hlb1 (by simp; omega) ho2 hg2
    have q2 := cell_of A2.1 0
    have z2 := free_of A2.1 0
    simp at q2
    have HA2 : Hid (WT b B (w1.alloc (.cells #[.int .u8 119] 5)) (x2.setCell ⟨b, 0, none⟩ (.slice a2 (l1.length + [(119 : Int)].length) cc2)) ∧ DW b B (x2.setCell ⟨b, 0, none⟩ (.slice a2 (l1.length + [(119 : Int)].length) cc2)) (thenW (thenW st (needW false 4)) (.ok [119])) (N + [(119 : Int)].length)) := A2.2
    have tt2 := A2.2.1
    clear A2 hg2 ho2 tt2 )
  have T2 : Hid (WT b B w (x2.setCell ⟨b, 0, none⟩ (.slice a2 (l1.length + 1) cc2))) := (T1.out.trans (WT.of_grew ((Grew.refl _).alloc _))).trans HA2.out.1
  have S2 : Hid (DW b B (x2.setCell ⟨b, 0, none⟩ (.slice a2 (l1.length + 1) cc2)) (thenW (thenW st (needW false 4)) (.ok [119])) (N + 1)) := HA2.out.2
  clear HA2 q2 z2 T1 S1 c01 R1 O1 E1 hlb1 hBl1 h31
  go_end0
  exact ⟨rfl, T2.out, by rw [← E.out]; exact S2.out.mono (by omega)⟩
set_option maxRecDepth 100000 in
set_option maxHeartbeats 2000000 in
theorem dv_seven_f_null {b B : Nat} {w : World} {st : Except Nat (List Int)} {N : Nat} (h : DW b B w st N)  (hp : Int) (hN : N ≤ 17592186044400) :
    Calls Tryd.prog 36 #[.pointer (some ⟨b, 0, none⟩), .agg #[.int .i64 7, .bool true, .int .i64 hp], .bool false] w (DA b B w (thenW st (svW false ⟨7, true, hp⟩)) (N + 1)) := by
  have E : Hid (thenW (thenW st (needW false 4)) (.ok [119]) = thenW st (svW false ⟨7, true, hp⟩)) := sv_eq (fun _ => by contradiction) (fun _ => by unfold svW valW; rw [if_neg (by simp), if_neg (by simp)]; exact plain_bad (Or.inl rfl))
  have S0 : Hid (DW b B (w.alloc (.cells #[.int .i64 7, .bool true, .int .i64 hp] 23)) st N) := h.grew ((Grew.refl w).alloc _)
  have T0 : Hid (WT b B w (w.alloc (.cells #[.int .i64 7, .bool true, .int .i64 hp] 23))) := WT.of_grew ((Grew.refl w).alloc _)
  have hbx : (w.alloc (.cells #[.int .i64 7, .bool true, .int .i64 hp] 23)).heap[w.heap.size]? = some (.cells #[.int .i64 7, .bool true, .int .i64 hp] 23 (0, 0)) := heap_alloc_last w _
  have hb : b < w.heap.size := h.blt
  have hnP : w.heap.size ≠ b := by omega
  clear h
  go_enter Tryd.func36, Tryd.ntmps36
  go_wp2_with fail
  refine (must_any S0.out false 4 (by decide)).mono ?_
  rintro en w1 ⟨rfl, t1, s1⟩
  have T1 : Hid (WT b B w w1) := T0.out.trans t1
  have S1 : Hid (DW b B w1 (thenW st (needW false 4)) N) := s1
  have bxP1 : w1.heap[w.heap.size]? = some (.cells #[.int .i64 7, .bool true, .int .i64 hp] 23 (0, 0)) := t1.other hbx hnP (NoT.of hbx (by decide))
  have fP0 := cell_of bxP1 0
  have fP1 := cell_of bxP1 1
  have fP2 := cell_of bxP1 2
  simp at fP0 fP1 fP2
  clear t1 s1 T0 S0 hbx
  obtain ⟨o1, e1, l1, h11, h21, h31, h41⟩ := S1.out.ex
  obtain ⟨oa1, oc1, rfl⟩ := row_one h21
  have c01 := cell_of h11 0
  simp at c01
  have R1 : Hid (w1.ownsRow B 5 1 (.slice oa1 l1.length oc1) l1.length (U8 l1)) := h21
  have O1 : Hid (w1.heap[b]? = some (dob (.slice oa1 l1.length oc1) e1)) := h11
  have E1 : Hid (StE (thenW st (needW false 4)) l1 e1) := h41
  have hlb1 : b < B := S1.out.lt
  have hBl1 : B ≤ w1.heap.size := S1.out.le
  clear h11 h21 h41
  go_wp2_with (
    at_builtin
    refine wp_appG (w := (w1.alloc (.cells #[.int .u8 119] 5))) (v := .slice oa1 l1.length oc1) (u := .slice (some ⟨w1.heap.size, 0, none⟩) 1 1) (r := [119]) rfl _ _ rfl rfl rfl (World.ownsRow.alloc R1.out _) (by simp; omega) (reads_new _ _ _) (by simp; omega) ?_
    intro v2 x2 ho2 hg2
    obtain ⟨a2, cc2, hv2⟩ := row_one ho2
    rw [List.length_append] at hv2
    subst hv2
    have A2 := dw_app (b := b) (B := B) (w := (w1.alloc (.cells #[.int .u8 119] 5))) (st := thenW st (needW false 4)) (N := N) (r := [119]) (heap_alloc O1.out _) (World.ownsRow.alloc R1.out _) h31 E1.out hlb1 (by simp; omega) ho2 hg2
    have q2 := cell_of A2.1 0
    have z2 := free_of A2.1 0
    simp at q2
    have HA2 : Hid (WT b B (w1.alloc (.cells #[.int .u8 119] 5)) (x2.setCell ⟨b, 0, none⟩ (.slice a2 (l1.length + [(119 : Int)].length) cc2)) ∧ DW b B (x2.setCell ⟨b, 0, none⟩ (.slice a2 (l1.length + [(119 : Int)].length) cc2)) (thenW (thenW st (needW false 4)) (.ok [119])) (N + [(119 : Int)].length)) := A2.2
    have tt2 := A2.2.1
    clear A2 hg2 ho2 tt2 )
  have T2 : Hid (WT b B w (x2.setCell ⟨b, 0, none⟩ (.slice a2 (l1.length + 1) cc2))) := (T1.out.trans (WT.of_grew ((Grew.refl _).alloc _))).trans HA2.out.1
  have S2 : Hid (DW b B (x2.setCell ⟨b, 0, none⟩ (.slice a2 (l1.length + 1) cc2)) (thenW (thenW st (needW false 4)) (.ok [119])) (N + 1)) := HA2.out.2
  clear HA2 q2 z2 T1 S1 c01 R1 O1 E1 hlb1 hBl1 h31
  go_end0
  exact ⟨rfl, T2.out, by rw [← E.out]; exact S2.out.mono (by omega)⟩
set_option maxRecDepth 100000 in
set_option maxHeartbeats 2000000 in
theorem dv_seven_f_heap {b B : Nat} {w : World} {st : Except Nat (List Int)} {N : Nat} (h : DW b B w st N)  (hp : Int) (hh : hp ≠ 0) (hN : N ≤ 17592186044400) :
    Calls Tryd.prog 36 #[.pointer (some ⟨b, 0, none⟩), .agg #[.int .i64 7, .bool false, .int .i64 hp], .bool false] w (DA b B w (thenW st (svW false ⟨7, false, hp⟩)) (N + 1)) := by
  have dhp : (hp == 0) = false := by simpa using hh
  have E : Hid (thenW (thenW st (needW false 4)) (.ok [119]) = thenW st (svW false ⟨7, false, hp⟩)) := sv_eq (fun _ => by contradiction) (fun _ => by unfold svW valW; rw [if_neg (by simp), if_neg (by simp)]; exact plain_bad (Or.inr hh))
  have S0 : Hid (DW b B (w.alloc (.cells #[.int .i64 7, .bool false, .int .i64 hp] 23)) st N) := h.grew ((Grew.refl w).alloc _)
  have T0 : Hid (WT b B w (w.alloc (.cells #[.int .i64 7, .bool false, .int .i64 hp] 23))) := WT.of_grew ((Grew.refl w).alloc _)
  have hbx : (w.alloc (.cells #[.int .i64 7, .bool false, .int .i64 hp] 23)).heap[w.heap.size]? = some (.cells #[.int .i64 7, .bool false, .int .i64 hp] 23 (0, 0)) := heap_alloc_last w _
  have hb : b < w.heap.size := h.blt
  have hnP : w.heap.size ≠ b := by omega
  clear h
  go_enter Tryd.func36, Tryd.ntmps36
  go_wp2_with fail
  refine (must_any S0.out false 4 (by decide)).mono ?_
  rintro en w1 ⟨rfl, t1, s1⟩
  have T1 : Hid (WT b B w w1) := T0.out.trans t1
  have S1 : Hid (DW b B w1 (thenW st (needW false 4)) N) := s1
  have bxP1 : w1.heap[w.heap.size]? = some (.cells #[.int .i64 7, .bool false, .int .i64 hp] 23 (0, 0)) := t1.other hbx hnP (NoT.of hbx (by decide))
  have fP0 := cell_of bxP1 0
  have fP1 := cell_of bxP1 1
  have fP2 := cell_of bxP1 2
  simp at fP0 fP1 fP2
  clear t1 s1 T0 S0 hbx
  obtain ⟨o1, e1, l1, h11, h21, h31, h41⟩ := S1.out.ex
  obtain ⟨oa1, oc1, rfl⟩ := row_one h21
  have c01 := cell_of h11 0
  simp at c01
  have R1 : Hid (w1.ownsRow B 5 1 (.slice oa1 l1.length oc1) l1.length (U8 l1)) := h21
  have O1 : Hid (w1.heap[b]? = some (dob (.slice oa1 l1.length oc1) e1)) := h11
  have E1 : Hid (StE (thenW st (needW false 4)) l1 e1) := h41
  have hlb1 : b < B := S1.out.lt
  have hBl1 : B ≤ w1.heap.size := S1.out.le
  clear h11 h21 h41
  go_wp2_with (
    at_builtin
    refine wp_appG (w := (w1.alloc (.cells #[.int .u8 119] 5))) (v := .slice oa1 l1.length oc1) (u := .slice (some ⟨w1.heap.size, 0, none⟩) 1 1) (r := [119]) rfl _ _ rfl rfl rfl (World.ownsRow.alloc R1.out _) (by simp; omega) (reads_new _ _ _) (by simp; omega) ?_
    intro v2 x2 ho2 hg2
    obtain ⟨a2, cc2, hv2⟩ := row_one ho2
    rw [List.length_append] at hv2
    subst hv2
    have A2 := dw_app (b := b) (B := B) (w := (w1.alloc (.cells #[.int .u8 119] 5))) (st := thenW st (needW false 4)) (N := N) (r := [119]) (heap_alloc O1.out _) (World.ownsRow.alloc R1.out _) h31 E1.out hlb1 (by simp; omega) ho2 hg2
    have q2 := cell_of A2.1 0
    have z2 := free_of A2.1 0
    simp at q2
    have HA2 : Hid (WT b B (w1.alloc (.cells #[.int .u8 119] 5)) (x2.setCell ⟨b, 0, none⟩ (.slice a2 (l1.length + [(119 : Int)].length) cc2)) ∧ DW b B (x2.setCell ⟨b, 0, none⟩ (.slice a2 (l1.length + [(119 : Int)].length) cc2)) (thenW (thenW st (needW false 4)) (.ok [119])) (N + [(119 : Int)].length)) := A2.2
    have tt2 := A2.2.1
    clear A2 hg2 ho2 tt2 )
  have T2 : Hid (WT b B w (x2.setCell ⟨b, 0, none⟩ (.slice a2 (l1.length + 1) cc2))) := (T1.out.trans (WT.of_grew ((Grew.refl _).alloc _))).trans HA2.out.1
  have S2 : Hid (DW b B (x2.setCell ⟨b, 0, none⟩ (.slice a2 (l1.length + 1) cc2)) (thenW (thenW st (needW false 4)) (.ok [119])) (N + 1)) := HA2.out.2
  clear HA2 q2 z2 T1 S1 c01 R1 O1 E1 hlb1 hBl1 h31
  go_end0
  exact ⟨rfl, T2.out, by rw [← E.out]; exact S2.out.mono (by omega)⟩
set_option maxRecDepth 100000 in
set_option maxHeartbeats 2000000 in
theorem dv_lo_t_good {b B : Nat} {w : World} {st : Except Nat (List Int)} {N : Nat} (h : DW b B w st N) (n : Int) (h1 : n < 1) (hN : N ≤ 17592186044400) :
    Calls Tryd.prog 36 #[.pointer (some ⟨b, 0, none⟩), .agg #[.int .i64 n, .bool false, .int .i64 0], .bool true] w (DA b B w (thenW st (svW true ⟨n, false, 0⟩)) (N + 1)) := by
  have d5 : (n != 5) = true := by simp; omega
  have d6 : (n == 6) = false := by simp; omega
  have d7 : (n == 7) = false := by simp; omega
  have dl : decide (1 ≤ n) = false := by simp; omega
  have dh : decide (n ≤ 4) = true := by simp; omega
  obtain ⟨q, hq⟩ : ∃ q, IntKind.i64.wrap (128 - n) = q := ⟨_, rfl⟩
  obtain ⟨r, hr⟩ : ∃ r, IntKind.u8.wrap q = r := ⟨_, rfl⟩
  have E : Hid (thenW (thenW st (needW false 4)) (.ok [r]) = thenW st (svW true ⟨n, false, 0⟩)) := sv_eq (fun _ => by contradiction) (fun _ => by rw [val_of (by omega) (by omega) (by omega), plain_good, codeR_none (codeW1_out (by omega))])
  have S0 : Hid (DW b B (w.alloc (.cells #[.int .i64 n, .bool false, .int .i64 0] 23)) st N) := h.grew ((Grew.refl w).alloc _)
  have T0 : Hid (WT b B w (w.alloc (.cells #[.int .i64 n, .bool false, .int .i64 0] 23))) := WT.of_grew ((Grew.refl w).alloc _)
  have hbx : (w.alloc (.cells #[.int .i64 n, .bool false, .int .i64 0] 23)).heap[w.heap.size]? = some (.cells #[.int .i64 n, .bool false, .int .i64 0] 23 (0, 0)) := heap_alloc_last w _
  have hb : b < w.heap.size := h.blt
  have hnP : w.heap.size ≠ b := by omega
  clear h
  go_enter Tryd.func36, Tryd.ntmps36
  go_wp2_with fail
  refine (must_any S0.out false 4 (by decide)).mono ?_
  rintro en w1 ⟨rfl, t1, s1⟩
  have T1 : Hid (WT b B w w1) := T0.out.trans t1
  have S1 : Hid (DW b B w1 (thenW st (needW false 4)) N) := s1
  have bxP1 : w1.heap[w.heap.size]? = some (.cells #[.int .i64 n, .bool false, .int .i64 0] 23 (0, 0)) := t1.other hbx hnP (NoT.of hbx (by decide))
  have fP0 := cell_of bxP1 0
  have fP1 := cell_of bxP1 1
  have fP2 := cell_of bxP1 2
  simp at fP0 fP1 fP2
  clear t1 s1 T0 S0 hbx
  obtain ⟨o1, e1, l1, h11, h21, h31, h41⟩ := S1.out.ex
  obtain ⟨oa1, oc1, rfl⟩ := row_one h21
  have c01 := cell_of h11 0
  simp at c01
  have R1 : Hid (w1.ownsRow B 5 1 (.slice oa1 l1.length oc1) l1.length (U8 l1)) := h21
  have O1 : Hid (w1.heap[b]? = some (dob (.slice oa1 l1.length oc1) e1)) := h11
  have E1 : Hid (StE (thenW st (needW false 4)) l1 e1) := h41
  have hlb1 : b < B := S1.out.lt
  have hBl1 : B ≤ w1.heap.size := S1.out.le
  clear h11 h21 h41
  go_wp2_with (
    at_builtin
    refine wp_appG (w := (w1.alloc (.cells #[.int .u8 r] 5))) (v := .slice oa1 l1.length oc1) (u := .slice (some ⟨w1.heap.size, 0, none⟩) 1 1) (r := [r]) rfl _ _ rfl rfl rfl (World.ownsRow.alloc R1.out _) (by simp; omega) (reads_new _ _ _) (by simp; omega) ?_
    intro v2 x2 ho2 hg2
    obtain ⟨a2, cc2, hv2⟩ := row_one ho2
    rw [List.length_append] at hv2
    subst hv2
    have A2 := dw_app (b := b) (B := B) (w := (w1.alloc (.cells #[.int .u8 r] 5))) (st := thenW st (needW false 4)) (N := N) (r := [r]) (heap_alloc O1.out _) (World.ownsRow.alloc R1.out _) h31 E1.out hlb1 (by simp; omega) ho2 hg2
    have q2 := cell_of A2.1 0
    have z2 := free_of A2.1 0
    simp at q2
    have HA2 : Hid (WT b B (w1.alloc (.cells #[.int .u8 r] 5)) (x2.setCell ⟨b, 0, none⟩ (.slice a2 (l1.length + [(r : Int)].length) cc2)) ∧ DW b B (x2.setCell ⟨b, 0, none⟩ (.slice a2 (l1.length + [(r : Int)].length) cc2)) (thenW (thenW st (needW false 4)) (.ok [r])) (N + [(r : Int)].length)) := A2.2
    have tt2 := A2.2.1
    clear A2 hg2 ho2 tt2 )
  have T2 : Hid (WT b B w (x2.setCell ⟨b, 0, none⟩ (.slice a2 (l1.length + 1) cc2))) := (T1.out.trans (WT.of_grew ((Grew.refl _).alloc _))).trans HA2.out.1
  have S2 : Hid (DW b B (x2.setCell ⟨b, 0, none⟩ (.slice a2 (l1.length + 1) cc2)) (thenW (thenW st (needW false 4)) (.ok [r])) (N + 1)) := HA2.out.2
  clear HA2 q2 z2 T1 S1 c01 R1 O1 E1 hlb1 hBl1 h31
  go_end0
  exact ⟨rfl, T2.out, by rw [← E.out]; exact S2.out.mono (by omega)⟩
set_option maxRecDepth 100000 in
set_option maxHeartbeats 2000000 in
theorem dv_lo_t_null {b B : Nat} {w : World} {st : Except Nat (List Int)} {N : Nat} (h : DW b B w st N) (n : Int) (h1 : n < 1) (hp : Int) (hN : N ≤ 17592186044400) :
    Calls Tryd.prog 36 #[.pointer (some ⟨b, 0, none⟩), .agg #[.int .i64 n, .bool true, .int .i64 hp], .bool true] w (DA b B w (thenW st (svW true ⟨n, true, hp⟩)) (N + 1)) := by
  have d5 : (n != 5) = true := by simp; omega
  have d6 : (n == 6) = false := by simp; omega
  have d7 : (n == 7) = false := by simp; omega
  have dl : decide (1 ≤ n) = false := by simp; omega
  have dh : decide (n ≤ 4) = true := by simp; omega
  obtain ⟨q, hq⟩ : ∃ q, IntKind.i64.wrap (128 - n) = q := ⟨_, rfl⟩
  obtain ⟨r, hr⟩ : ∃ r, IntKind.u8.wrap q = r := ⟨_, rfl⟩
  have E : Hid (thenW (thenW st (needW false 4)) (.ok [r]) = thenW st (svW true ⟨n, true, hp⟩)) := sv_eq (fun _ => by contradiction) (fun _ => by rw [val_of (by omega) (by omega) (by omega)]; exact plain_bad (Or.inl rfl))
  have S0 : Hid (DW b B (w.alloc (.cells #[.int .i64 n, .bool true, .int .i64 hp] 23)) st N) := h.grew ((Grew.refl w).alloc _)
  have T0 : Hid (WT b B w (w.alloc (.cells #[.int .i64 n, .bool true, .int .i64 hp] 23))) := WT.of_grew ((Grew.refl w).alloc _)
  have hbx : (w.alloc (.cells #[.int .i64 n, .bool true, .int .i64 hp] 23)).heap[w.heap.size]? = some (.cells #[.int .i64 n, .bool true, .int .i64 hp] 23 (0, 0)) := heap_alloc_last w _
  have hb : b < w.heap.size := h.blt
  have hnP : w.heap.size ≠ b := by omega
  clear h
  go_enter Tryd.func36, Tryd.ntmps36
  go_wp2_with fail
  refine (must_any S0.out false 4 (by decide)).mono ?_
  rintro en w1 ⟨rfl, t1, s1⟩
  have T1 : Hid (WT b B w w1) := T0.out.trans t1
  have S1 : Hid (DW b B w1 (thenW st (needW false 4)) N) := s1
  have bxP1 : w1.heap[w.heap.size]? = some (.cells #[.int .i64 n, .bool true, .int .i64 hp] 23 (0, 0)) := t1.other hbx hnP (NoT.of hbx (by decide))
  have fP0 := cell_of bxP1 0
  have fP1 := cell_of bxP1 1
  have fP2 := cell_of bxP1 2
  simp at fP0 fP1 fP2
  clear t1 s1 T0 S0 hbx
  obtain ⟨o1, e1, l1, h11, h21, h31, h41⟩ := S1.out.ex
  obtain ⟨oa1, oc1, rfl⟩ := row_one h21
  have c01 := cell_of h11 0
  simp at c01
  have R1 : Hid (w1.ownsRow B 5 1 (.slice oa1 l1.length oc1) l1.length (U8 l1)) := h21
  have O1 : Hid (w1.heap[b]? = some (dob (.slice oa1 l1.length oc1) e1)) := h11
  have E1 : Hid (StE (thenW st (needW false 4)) l1 e1) := h41
  have hlb1 : b < B := S1.out.lt
  have hBl1 : B ≤ w1.heap.size := S1.out.le
  clear h11 h21 h41
  go_wp2_with (
    at_builtin
    refine wp_appG (w := (w1.alloc (.cells #[.int .u8 r] 5))) (v := .slice oa1 l1.length oc1) (u := .slice (some ⟨w1.heap.size, 0, none⟩) 1 1) (r := [r]) rfl _ _ rfl rfl rfl (World.ownsRow.alloc R1.out _) (by simp; omega) (reads_new _ _ _) (by simp; omega) ?_
    intro v2 x2 ho2 hg2
    obtain ⟨a2, cc2, hv2⟩ := row_one ho2
    rw [List.length_append] at hv2
    subst hv2
    have A2 := dw_app (b := b) (B := B) (w := (w1.alloc (.cells #[.int .u8 r] 5))) (st := thenW st (needW false 4)) (N := N) (r := [r]) (heap_alloc O1.out _) (World.ownsRow.alloc R1.out _) h31 E1.out hlb1 (by simp; omega) ho2 hg2
    have q2 := cell_of A2.1 0
    have z2 := free_of A2.1 0
    simp at q2
    have HA2 : Hid (WT b B (w1.alloc (.cells #[.int .u8 r] 5)) (x2.setCell ⟨b, 0, none⟩ (.slice a2 (l1.length + [(r : Int)].length) cc2)) ∧ DW b B (x2.setCell ⟨b, 0, none⟩ (.slice a2 (l1.length + [(r : Int)].length) cc2)) (thenW (thenW st (needW false 4)) (.ok [r])) (N + [(r : Int)].length)) := A2.2
    have tt2 := A2.2.1
    clear A2 hg2 ho2 tt2 )
  have T2 : Hid (WT b B w (x2.setCell ⟨b, 0, none⟩ (.slice a2 (l1.length + 1) cc2))) := (T1.out.trans (WT.of_grew ((Grew.refl _).alloc _))).trans HA2.out.1
  have S2 : Hid (DW b B (x2.setCell ⟨b, 0, none⟩ (.slice a2 (l1.length + 1) cc2)) (thenW (thenW st (needW false 4)) (.ok [r])) (N + 1)) := HA2.out.2
  clear HA2 q2 z2 T1 S1 c01 R1 O1 E1 hlb1 hBl1 h31
  go_end0
  exact ⟨rfl, T2.out, by rw [← E.out]; exact S2.out.mono (by omega)⟩
set_option maxRecDepth 100000 in
set_option maxHeartbeats 2000000 in
theorem dv_lo_t_heap {b B : Nat} {w : World} {st : Except Nat (List Int)} {N : Nat} (h : DW b B w st N) (n : Int) (h1 : n < 1) (hp : Int) (hh : hp ≠ 0) (hN : N ≤ 17592186044400) :
    Calls Tryd.prog 36 #[.pointer (some ⟨b, 0, none⟩), .agg #[.int .i64 n, .bool false, .int .i64 hp], .bool true] w (DA b B w (thenW st (svW true ⟨n, false, hp⟩)) (N + 1)) := by
  have d5 : (n != 5) = true := by simp; omega
  have d6 : (n == 6) = false := by simp; omega
  have d7 : (n == 7) = false := by simp; omega
  have dl : decide (1 ≤ n) = false := by simp; omega
  have dh : decide (n ≤ 4) = true := by simp; omega
  obtain ⟨q, hq⟩ : ∃ q, IntKind.i64.wrap (128 - n) = q := ⟨_, rfl⟩
  obtain ⟨r, hr⟩ : ∃ r, IntKind.u8.wrap q = r := ⟨_, rfl⟩
  have dhp : (hp == 0) = false := by simpa using hh
  have E : Hid (thenW (thenW st (needW false 4)) (.ok [r]) = thenW st (svW true ⟨n, false, hp⟩)) := sv_eq (fun _ => by contradiction) (fun _ => by rw [val_of (by omega) (by omega) (by omega)]; exact plain_bad (Or.inr hh))
  have S0 : Hid (DW b B (w.alloc (.cells #[.int .i64 n, .bool false, .int .i64 hp] 23)) st N) := h.grew ((Grew.refl w).alloc _)
  have T0 : Hid (WT b B w (w.alloc (.cells #[.int .i64 n, .bool false, .int .i64 hp] 23))) := WT.of_grew ((Grew.refl w).alloc _)
  have hbx : (w.alloc (.cells #[.int .i64 n, .bool false, .int .i64 hp] 23)).heap[w.heap.size]? = some (.cells #[.int .i64 n, .bool false, .int .i64 hp] 23 (0, 0)) := heap_alloc_last w _
  have hb : b < w.heap.size := h.blt
  have hnP : w.heap.size ≠ b := by omega
  clear h
  go_enter Tryd.func36, Tryd.ntmps36
  go_wp2_with fail
  refine (must_any S0.out false 4 (by decide)).mono ?_
  rintro en w1 ⟨rfl, t1, s1⟩
  have T1 : Hid (WT b B w w1) := T0.out.trans t1
  have S1 : Hid (DW b B w1 (thenW st (needW false 4)) N) := s1
  have bxP1 : w1.heap[w.heap.size]? = some (.cells #[.int .i64 n, .bool false, .int .i64 hp] 23 (0, 0)) := t1.other hbx hnP (NoT.of hbx (by decide))
  have fP0 := cell_of bxP1 0
  have fP1 := cell_of bxP1 1
  have fP2 := cell_of bxP1 2
  simp at fP0 fP1 fP2
  clear t1 s1 T0 S0 hbx
  obtain ⟨o1, e1, l1, h11, h21, h31, h41⟩ := S1.out.ex
  obtain ⟨oa1, oc1, rfl⟩ := row_one h21
  have c01 := cell_of h11 0
  simp at c01
  have R1 : Hid (w1.ownsRow B 5 1 (.slice oa1 l1.length oc1) l1.length (U8 l1)) := h21
  have O1 : Hid (w1.heap[b]? = some (dob (.slice oa1 l1.length oc1) e1)) := h11
  have E1 : Hid (StE (thenW st (needW false 4)) l1 e1) := h41
  have hlb1 : b < B := S1.out.lt
  have hBl1 : B ≤ w1.heap.size := S1.out.le
  clear h11 h21 h41
  go_wp2_with (
    at_builtin
    refine wp_appG (w := (w1.alloc (.cells #[.int .u8 r] 5))) (v := .slice oa1 l1.length oc1) (u := .slice (some ⟨w1.heap.size, 0, none⟩) 1 1) (r := [r]) rfl _ _ rfl rfl rfl (World.ownsRow.alloc R1.out _) (by simp; omega) (reads_new _ _ _) (by simp; omega) ?_
    intro v2 x2 ho2 hg2
    obtain ⟨a2, cc2, hv2⟩ := row_one ho2
    rw [List.length_append] at hv2
    subst hv2
    have A2 := dw_app (b := b) (B := B) (w := (w1.alloc (.cells #[.int .u8 r] 5))) (st := thenW st (needW false 4)) (N := N) (r := [r]) (heap_alloc O1.out _) (World.ownsRow.alloc R1.out _) h31 E1.out hlb1 (by simp; omega) ho2 hg2
    have q2 := cell_of A2.1 0
    have z2 := free_of A2.1 0
    simp at q2
    have HA2 : Hid (WT b B (w1.alloc (.cells #[.int .u8 r] 5)) (x2.setCell ⟨b, 0, none⟩ (.slice a2 (l1.length + [(r : Int)].length) cc2)) ∧ DW b B (x2.setCell ⟨b, 0, none⟩ (.slice a2 (l1.length + [(r : Int)].length) cc2)) (thenW (thenW st (needW false 4)) (.ok [r])) (N + [(r : Int)].length)) := A2.2
    have tt2 := A2.2.1
    clear A2 hg2 ho2 tt2 )
  have T2 : Hid (WT b B w (x2.setCell ⟨b, 0, none⟩ (.slice a2 (l1.length + 1) cc2))) := (T1.out.trans (WT.of_grew ((Grew.refl _).alloc _))).trans HA2.out.1
  have S2 : Hid (DW b B (x2.setCell ⟨b, 0, none⟩ (.slice a2 (l1.length + 1) cc2)) (thenW (thenW st (needW false 4)) (.ok [r])) (N + 1)) := HA2.out.2
  clear HA2 q2 z2 T1 S1 c01 R1 O1 E1 hlb1 hBl1 h31
  go_end0
  exact ⟨rfl, T2.out, by rw [← E.out]; exact S2.out.mono (by omega)⟩
set_option maxRecDepth 100000 in
set_option maxHeartbeats 2000000 in
theorem dv_lo_f_good {b B : Nat} {w : World} {st : Except Nat (List Int)} {N : Nat} (h : DW b B w st N) (n : Int) (h1 : n < 1) (hN : N ≤ 17592186044400) :
    Calls Tryd.prog 36 #[.pointer (some ⟨b, 0, none⟩), .agg #[.int .i64 n, .bool false, .int .i64 0], .bool false] w (DA b B w (thenW st (svW false ⟨n, false, 0⟩)) (N + 1)) := by
  have d5 : (n != 5) = true := by simp; omega
  have d6 : (n == 6) = false := by simp; omega
  have d7 : (n == 7) = false := by simp; omega
  have dl : decide (1 ≤ n) = false := by simp; omega
  have dh : decide (n ≤ 4) = true := by simp; omega
  obtain ⟨q, hq⟩ : ∃ q, IntKind.i64.wrap (128 - n) = q := ⟨_, rfl⟩
  obtain ⟨r, hr⟩ : ∃ r, IntKind.u8.wrap q = r := ⟨_, rfl⟩
  have E : Hid (thenW (thenW st (needW false 4)) (.ok [r]) = thenW st (svW false ⟨n, false, 0⟩)) := sv_eq (fun _ => by contradiction) (fun _ => by rw [val_of (by omega) (by omega) (by omega), plain_good, codeR_none (codeW1_out (by omega))])
  have S0 : Hid (DW b B (w.alloc (.cells #[.int .i64 n, .bool false, .int .i64 0] 23)) st N) := h.grew ((Grew.refl w).alloc _)
  have T0 : Hid (WT b B w (w.alloc (.cells #[.int .i64 n, .bool false, .int .i64 0] 23))) := WT.of_grew ((Grew.refl w).alloc _)
  have hbx : (w.alloc (.cells #[.int .i64 n, .bool false, .int .i64 0] 23)).heap[w.heap.size]? = some (.cells #[.int .i64 n, .bool false, .int .i64 0] 23 (0, 0)) := heap_alloc_last w _
  have hb : b < w.heap.size := h.blt
  have hnP : w.heap.size ≠ b := by omega
  clear h
  go_enter Tryd.func36, Tryd.ntmps36
  go_wp2_with fail
  refine (must_any S0.out false 4 (by decide)).mono ?_
  rintro en w1 ⟨rfl, t1, s1⟩
  have T1 : Hid (WT b B w w1) := T0.out.trans t1
  have S1 : Hid (DW b B w1 (thenW st (needW false 4)) N) := s1
  have bxP1 : w1.heap[w.heap.size]? = some (.cells #[.int .i64 n, .bool false, .int .i64 0] 23 (0, 0)) := t1.other hbx hnP (NoT.of hbx (by decide))
  have fP0 := cell_of bxP1 0
  have fP1 := cell_of bxP1 1
  have fP2 := cell_of bxP1 2
  simp at fP0 fP1 fP2
  clear t1 s1 T0 S0 hbx
  obtain ⟨o1, e1, l1, h11, h21, h31, h41⟩ := S1.out.ex
  obtain ⟨oa1, oc1, rfl⟩ := row_one h21
  have c01 := cell_of h11 0
  simp at c01
  have R1 : Hid (w1.ownsRow B 5 1 (.slice oa1 l1.length oc1) l1.length (U8 l1)) := h21
  have O1 : Hid (w1.heap[b]? = some (dob (.slice oa1 l1.length oc1) e1)) := h11
  have E1 : Hid (StE (thenW st (needW false 4)) l1 e1) := h41
  have hlb1 : b < B := S1.out.lt
  have hBl1 : B ≤ w1.heap.size := S1.out.le
  clear h11 h21 h41
  go_wp2_with (
    at_builtin
    refine wp_appG (w := (w1.alloc (.cells #[.int .u8 r] 5))) (v := .slice oa1 l1.length oc1) (u := .slice (some ⟨w1.heap.size, 0, none⟩) 1 1) (r := [r]) rfl _ _ rfl rfl rfl (World.ownsRow.alloc R1.out _) (by simp; omega) (reads_new _ _ _) (by simp; omega) ?_
    intro v2 x2 ho2 hg2
    obtain ⟨a2, cc2, hv2⟩ := row_one ho2
    rw [List.length_append] at hv2
    subst hv2
    have A2 := dw_app (b := b) (B := B) (w := (w1.alloc (.cells #[.int .u8 r] 5))) (st := thenW st (needW false 4)) (N := N) (r := [r]) (heap_alloc O1.out _) (World.ownsRow.alloc R1.out _) h31 E1.out hlb1 (by simp; omega) ho2 hg2
    have q2 := cell_of A2.1 0
    have z2 := free_of A2.1 0
    simp at q2
    have HA2 : Hid (WT b B (w1.alloc (.cells #[.int .u8 r] 5)) (x2.setCell ⟨b, 0, none⟩ (.slice a2 (l1.length + [(r : Int)].length) cc2)) ∧ DW b B (x2.setCell ⟨b, 0, none⟩ (.slice a2 (l1.length + [(r : Int)].length) cc2)) (thenW (thenW st (needW false 4)) (.ok [r])) (N + [(r : Int)].length)) := A2.2
    have tt2 := A2.2.1
    clear A2 hg2 ho2 tt2 )
  have T2 : Hid (WT b B w (x2.setCell ⟨b, 0, none⟩ (.slice a2 (l1.length + 1) cc2))) := (T1.out.trans (WT.of_grew ((Grew.refl _).alloc _))).trans HA2.out.1
  have S2 : Hid (DW b B (x2.setCell ⟨b, 0, none⟩ (.slice a2 (l1.length + 1) cc2)) (thenW (thenW st (needW false 4)) (.ok [r])) (N + 1)) := HA2.out.2
  clear HA2 q2 z2 T1 S1 c01 R1 O1 E1 hlb1 hBl1 h31
  go_end0
  exact ⟨rfl, T2.out, by rw [← E.out]; exact S2.out.mono (by omega)⟩
set_option maxRecDepth 100000 in
set_option maxHeartbeats 2000000 in
theorem dv_lo_f_null {b B : Nat} {w : World} {st : Except Nat (List Int)} {N : Nat} (h : DW b B w st N) (n : Int) (h1 : n < 1) (hp : Int) (hN : N ≤ 17592186044400) :
    Calls Tryd.prog 36 #[.pointer (some ⟨b, 0, none⟩), .agg #[.int .i64 n, .bool true, .int .i64 hp], .bool false] w (DA b B w (thenW st (svW false ⟨n, true, hp⟩)) (N + 1)) := by
  have d5 : (n != 5) = true := by simp; omega
  have d6 : (n == 6) = false := by simp; omega
  have d7 : (n == 7) = false := by simp; omega
  have dl : decide (1 ≤ n) = false := by simp; omega
  have dh : decide (n ≤ 4) = true := by simp; omega
  obtain ⟨q, hq⟩ : ∃ q, IntKind.i64.wrap (128 - n) = q := ⟨_, rfl⟩
  obtain ⟨r, hr⟩ : ∃ r, IntKind.u8.wrap q = r := ⟨_, rfl⟩
  have E : Hid (thenW (thenW st (needW false 4)) (.ok [r]) = thenW st (svW false ⟨n, true, hp⟩)) := sv_eq (fun _ => by contradiction) (fun _ => by rw [val_of (by omega) (by omega) (by omega)]; exact plain_bad (Or.inl rfl))
  have S0 : Hid (DW b B (w.alloc (.cells #[.int .i64 n, .bool true, .int .i64 hp] 23)) st N) := h.grew ((Grew.refl w).alloc _)
  have T0 : Hid (WT b B w (w.alloc (.cells #[.int .i64 n, .bool true, .int .i64 hp] 23))) := WT.of_grew ((Grew.refl w).alloc _)
  have hbx : (w.alloc (.cells #[.int .i64 n, .bool true, .int .i64 hp] 23)).heap[w.heap.size]? = some (.cells #[.int .i64 n, .bool true, .int .i64 hp] 23 (0, 0)) := heap_alloc_last w _
  have hb : b < w.heap.size := h.blt
  have hnP : w.heap.size ≠ b := by omega
  clear h
  go_enter Tryd.func36, Tryd.ntmps36
  go_wp2_with fail
  refine (must_any S0.out false 4 (by decide)).mono ?_
  rintro en w1 ⟨rfl, t1, s1⟩
  have T1 : Hid (WT b B w w1) := T0.out.trans t1
  have S1 : Hid (DW b B w1 (thenW st (needW false 4)) N) := s1
  have bxP1 : w1.heap[w.heap.size]? = some (.cells #[.int .i64 n, .bool true, .int .i64 hp] 23 (0, 0)) := t1.other hbx hnP (NoT.of hbx (by decide))
  have fP0 := cell_of bxP1 0
  have fP1 := cell_of bxP1 1
  have fP2 := cell_of bxP1 2
  simp at fP0 fP1 fP2
  clear t1 s1 T0 S0 hbx
  obtain ⟨o1, e1, l1, h11, h21, h31, h41⟩ := S1.out.ex
  obtain ⟨oa1, oc1, rfl⟩ := row_one h21
  have c01 := cell_of h11 0
  simp at c01
  have R1 : Hid (w1.ownsRow B 5 1 (.slice oa1 l1.length oc1) l1.length (U8 l1)) := h21
  have O1 : Hid (w1.heap[b]? = some (dob (.slice oa1 l1.length oc1) e1)) := h11
  have E1 : Hid (StE (thenW st (needW false 4)) l1 e1) := h41
  have hlb1 : b < B := S1.out.lt
  have hBl1 : B ≤ w1.heap.size := S1.out.le
  clear h11 h21 h41
  go_wp2_with (
    at_builtin
    refine wp_appG (w := (w1.alloc (.cells #[.int .u8 r] 5))) (v := .slice oa1 l1.length oc1) (u := .slice (some ⟨w1.heap.size, 0, none⟩) 1 1) (r := [r]) rfl _ _ rfl rfl rfl (World.ownsRow.alloc R1.out _) (by simp; omega) (reads_new _ _ _) (by simp; omega) ?_
    intro v2 x2 ho2 hg2
    obtain ⟨a2, cc2, hv2⟩ := row_one ho2
    rw [List.length_append] at hv2
    subst hv2
    have A2 := dw_app (b := b) (B := B) (w := (w1.alloc (.cells #[.int .u8 r] 5))) (st := thenW st (needW false 4)) (N := N) (r := [r]) (heap_alloc O1.out _) (World.ownsRow.alloc R1.out _) h31 E1.out hlb1 (by simp; omega) ho2 hg2
    have q2 := cell_of A2.1 0
    have z2 := free_of A2.1 0
    simp at q2
    have HA2 : Hid (WT b B (w1.alloc (.cells #[.int .u8 r] 5)) (x2.setCell ⟨b, 0, none⟩ (.slice a2 (l1.length + [(r : Int)].length) cc2)) ∧ DW b B (x2.setCell ⟨b, 0, none⟩ (.slice a2 (l1.length + [(r : Int)].length) cc2)) (thenW (thenW st (needW false 4)) (.ok [r])) (N + [(r : Int)].length)) := A2.2
    have tt2 := A2.2.1
    clear A2 hg2 ho2 tt2 )
  have T2 : Hid (WT b B w (x2.setCell ⟨b, 0, none⟩ (.slice a2 (l1.length + 1) cc2))) := (T1.out.trans (WT.of_grew ((Grew.refl _).alloc _))).trans HA2.out.1
  have S2 : Hid (DW b B (x2.setCell ⟨b, 0, none⟩ (.slice a2 (l1.length + 1) cc2)) (thenW (thenW st (needW false 4)) (.ok [r])) (N + 1)) := HA2.out.2
  clear HA2 q2 z2 T1 S1 c01 R1 O1 E1 hlb1 hBl1 h31
  go_end0
  exact ⟨rfl, T2.out, by rw [← E.out]; exact S2.out.mono (by omega)⟩
set_option maxRecDepth 100000 in
set_option maxHeartbeats 2000000 in
theorem dv_lo_f_heap {b B : Nat} {w : World} {st : Except Nat (List Int)} {N : Nat} (h : DW b B w st N) (n : Int) (h1 : n < 1) (hp : Int) (hh : hp ≠ 0) (hN : N ≤ 17592186044400) :
    Calls Tryd.prog 36 #[.pointer (some ⟨b, 0, none⟩), .agg #[.int .i64 n, .bool false, .int .i64 hp], .bool false] w (DA b B w (thenW st (svW false ⟨n, false, hp⟩)) (N + 1)) := by
  have d5 : (n != 5) = true := by simp; omega
  have d6 : (n == 6) = false := by simp; omega
  have d7 : (n == 7) = false := by simp; omega
  have dl : decide (1 ≤ n) = false := by simp; omega
  have dh : decide (n ≤ 4) = true := by simp; omega
  obtain ⟨q, hq⟩ : ∃ q, IntKind.i64.wrap (128 - n) = q := ⟨_, rfl⟩
  obtain ⟨r, hr⟩ : ∃ r, IntKind.u8.wrap q = r := ⟨_, rfl⟩
  have dhp : (hp == 0) = false := by simpa using hh
  have E : Hid (thenW (thenW st (needW false 4)) (.ok [r]) = thenW st (svW false ⟨n, false, hp⟩)) := sv_eq (fun _ => by contradiction) (fun _ => by rw [val_of (by omega) (by omega) (by omega)]; exact plain_bad (Or.inr hh))
  have S0 : Hid (DW b B (w.alloc (.cells #[.int .i64 n, .bool false, .int .i64 hp] 23)) st N) := h.grew ((Grew.refl w).alloc _)
  have T0 : Hid (WT b B w (w.alloc (.cells #[.int .i64 n, .bool false, .int .i64 hp] 23))) := WT.of_grew ((Grew.refl w).alloc _)
  have hbx : (w.alloc (.cells #[.int .i64 n, .bool false, .int .i64 hp] 23)).heap[w.heap.size]? = some (.cells #[.int .i64 n, .bool false, .int .i64 hp] 23 (0, 0)) := heap_alloc_last w _
  have hb : b < w.heap.size := h.blt
  have hnP : w.heap.size ≠ b := by omega
  clear h
  go_enter Tryd.func36, Tryd.ntmps36
  go_wp2_with fail
  refine (must_any S0.out false 4 (by decide)).mono ?_
  rintro en w1 ⟨rfl, t1, s1⟩
  have T1 : Hid (WT b B w w1) := T0.out.trans t1
  have S1 : Hid (DW b B w1 (thenW st (needW false 4)) N) := s1
  have bxP1 : w1.heap[w.heap.size]? = some (.cells #[.int .i64 n, .bool false, .int .i64 hp] 23 (0, 0)) := t1.other hbx hnP (NoT.of hbx (by decide))
  have fP0 := cell_of bxP1 0
  have fP1 := cell_of bxP1 1
  have fP2 := cell_of bxP1 2
  simp at fP0 fP1 fP2
  clear t1 s1 T0 S0 hbx
  obtain ⟨o1, e1, l1, h11, h21, h31, h41⟩ := S1.out.ex
  obtain ⟨oa1, oc1, rfl⟩ := row_one h21
  have c01 := cell_of h11 0
  simp at c01
  have R1 : Hid (w1.ownsRow B 5 1 (.slice oa1 l1.length oc1) l1.length (U8 l1)) := h21
  have O1 : Hid (w1.heap[b]? = some (dob (.slice oa1 l1.length oc1) e1)) := h11
  have E1 : Hid (StE (thenW st (needW false 4)) l1 e1) := h41
  have hlb1 : b < B := S1.out.lt
  have hBl1 : B ≤ w1.heap.size := S1.out.le
  clear h11 h21 h41
  go_wp2_with (
    at_builtin
    refine wp_appG (w := (w1.alloc (.cells #[.int .u8 r] 5))) (v := .slice oa1 l1.length oc1) (u := .slice (some ⟨w1.heap.size, 0, none⟩) 1 1) (r := [r]) rfl _ _ rfl rfl rfl (World.ownsRow.alloc R1.out _) (by simp; omega) (reads_new _ _ _) (by simp; omega) ?_
    intro v2 x2 ho2 hg2
    obtain ⟨a2, cc2, hv2⟩ := row_one ho2
    rw [List.length_append] at hv2
    subst hv2
    have A2 := dw_app (b := b) (B := B) (w := (w1.alloc (.cells #[.int .u8 r] 5))) (st := thenW st (needW false 4)) (N := N) (r := [r]) (heap_alloc O1.out _) (World.ownsRow.alloc R1.out _) h31 E1.out hlb1 (by simp; omega) ho2 hg2
    have q2 := cell_of A2.1 0
    have z2 := free_of A2.1 0
    simp at q2
    have HA2 : Hid (WT b B (w1.alloc (.cells #[.int .u8 r] 5)) (x2.setCell ⟨b, 0, none⟩ (.slice a2 (l1.length + [(r : Int)].length) cc2)) ∧ DW b B (x2.setCell ⟨b, 0, none⟩ (.slice a2 (l1.length + [(r : Int)].length) cc2)) (thenW (thenW st (needW false 4)) (.ok [r])) (N + [(r : Int)].length)) := A2.2
    have tt2 := A2.2.1
    clear A2 hg2 ho2 tt2 )
  have T2 : Hid (WT b B w (x2.setCell ⟨b, 0, none⟩ (.slice a2 (l1.length + 1) cc2))) := (T1.out.trans (WT.of_grew ((Grew.refl _).alloc _))).trans HA2.out.1
  have S2 : Hid (DW b B (x2.setCell ⟨b, 0, none⟩ (.slice a2 (l1.length + 1) cc2)) (thenW (thenW st (needW false 4)) (.ok [r])) (N + 1)) := HA2.out.2
  clear HA2 q2 z2 T1 S1 c01 R1 O1 E1 hlb1 hBl1 h31
  go_end0
  exact ⟨rfl, T2.out, by rw [← E.out]; exact S2.out.mono (by omega)⟩
set_option maxRecDepth 100000 in
set_option maxHeartbeats 2000000 in
theorem dv_hi_t_good {b B : Nat} {w : World} {st : Except Nat (List Int)} {N : Nat} (h : DW b B w st N) (n : Int) (h7 : 7 < n) (hN : N ≤ 17592186044400) :
    Calls Tryd.prog 36 #[.pointer (some ⟨b, 0, none⟩), .agg #[.int .i64 n, .bool false, .int .i64 0], .bool true] w (DA b B w (thenW st (svW true ⟨n, false, 0⟩)) (N + 1)) := by
  have d5 : (n != 5) = true := by simp; omega
  have d6 : (n == 6) = false := by simp; omega
  have d7 : (n == 7) = false := by simp; omega
  have dl : decide (1 ≤ n) = true := by simp; omega
  have dh : decide (n ≤ 4) = false := by simp; omega
  obtain ⟨q, hq⟩ : ∃ q, IntKind.i64.wrap (128 - n) = q := ⟨_, rfl⟩
  obtain ⟨r, hr⟩ : ∃ r, IntKind.u8.wrap q = r := ⟨_, rfl⟩
  have E : Hid (thenW (thenW st (needW false 4)) (.ok [r]) = thenW st (svW true ⟨n, false, 0⟩)) := sv_eq (fun _ => by contradiction) (fun _ => by rw [val_of (by omega) (by omega) (by omega), plain_good, codeR_none (codeW1_out (by omega))])
  have S0 : Hid (DW b B (w.alloc (.cells #[.int .i64 n, .bool false, .int .i64 0] 23)) st N) := h.grew ((Grew.refl w).alloc _)
  have T0 : Hid (WT b B w (w.alloc (.cells #[.int .i64 n, .bool false, .int .i64 0] 23))) := WT.of_grew ((Grew.refl w).alloc _)
  have hbx : (w.alloc (.cells #[.int .i64 n, .bool false, .int .i64 0] 23)).heap[w.heap.size]? = some (.cells #[.int .i64 n, .bool false, .int .i64 0] 23 (0, 0)) := heap_alloc_last w _
  have hb : b < w.heap.size := h.blt
  have hnP : w.heap.size ≠ b := by omega
  clear h
  go_enter Tryd.func36, Tryd.ntmps36
  go_wp2_with fail
  refine (must_any S0.out false 4 (by decide)).mono ?_
  rintro en w1 ⟨rfl, t1, s1⟩
  have T1 : Hid (WT b B w w1) := T0.out.trans t1
  have S1 : Hid (DW b B w1 (thenW st (needW false 4)) N) := s1
  have bxP1 : w1.heap[w.heap.size]? = some (.cells #[.int .i64 n, .bool false, .int .i64 0] 23 (0, 0)) := t1.other hbx hnP (NoT.of hbx (by decide))
  have fP0 := cell_of bxP1 0
  have fP1 := cell_of bxP1 1
  have fP2 := cell_of bxP1 2
  simp at fP0 fP1 fP2
  clear t1 s1 T0 S0 hbx
  obtain ⟨o1, e1, l1, h11, h21, h31, h41⟩ := S1.out.ex
  obtain ⟨oa1, oc1, rfl⟩ := row_one h21
  have c01 := cell_of h11 0
  simp at c01
  have R1 : Hid (w1.ownsRow B 5 1 (.slice oa1 l1.length oc1) l1.length (U8 l1)) := h21
  have O1 : Hid (w1.heap[b]? = some (dob (.slice oa1 l1.length oc1) e1)) := h11
  have E1 : Hid (StE (thenW st (needW false 4)) l1 e1) := h41
  have hlb1 : b < B := S1.out.lt
  have hBl1 : B ≤ w1.heap.size := S1.out.le
  clear h11 h21 h41
  go_wp2_with (
    at_builtin
    refine wp_appG (w := (w1.alloc (.cells #[.int .u8 r] 5))) (v := .slice oa1 l1.length oc1) (u := .slice (some ⟨w1.heap.size, 0, none⟩) 1 1) (r := [r]) rfl _ _ rfl rfl rfl (World.ownsRow.alloc R1.out _) (by simp; omega) (reads_new _ _ _) (by simp; omega) ?_
    intro v2 x2 ho2 hg2
    obtain ⟨a2, cc2, hv2⟩ := row_one ho2
    rw [List.length_append] at hv2
    subst hv2
    have A2 := dw_app (b := b) (B := B) (w := (w1.alloc (.cells #[.int .u8 r] 5))) (st := thenW st (needW false 4)) (N := N) (r := [r]) (heap_alloc O1.out _) (World.ownsRow.alloc R1.out _) h31 E1.out hlb1 (by simp; omega) ho2 hg2
    have q2 := cell_of A2.1 0
    have z2 := free_of A2.1 0
    simp at q2
    have HA2 : Hid (WT b B (w1.alloc (.cells #[.int .u8 r] 5)) (x2.setCell ⟨b, 0, none⟩ (.slice a2 (l1.length + [(r : Int)].length) cc2)) ∧ DW b B (x2.setCell ⟨b, 0, none⟩ (.slice a2 (l1.length + [(r : Int)].length) cc2)) (thenW (thenW st (needW false 4)) (.ok [r])) (N + [(r : Int)].length)) := A2.2
    have tt2 := A2.2.1
    clear A2 hg2 ho2 tt2 )
  have T2 : Hid (WT b B w (x2.setCell ⟨b, 0, none⟩ (.slice a2 (l1.length + 1) cc2))) := (T1.out.trans (WT.of_grew ((Grew.refl _).alloc _))).trans HA2.out.1
  have S2 : Hid (DW b B (x2.setCell ⟨b, 0, none⟩ (.slice a2 (l1.length + 1) cc2)) (thenW (thenW st (needW false 4)) (.ok [r])) (N + 1)) := HA2.out.2
  clear HA2 q2 z2 T1 S1 c01 R1 O1 E1 hlb1 hBl1 h31
  go_end0
  exact ⟨rfl, T2.out, by rw [← E.out]; exact S2.out.mono (by omega)⟩
set_option maxRecDepth 100000 in
set_option maxHeartbeats 2000000 in
theorem dv_hi_t_null {b B : Nat} {w : World} {st : Except Nat (List Int)} {N : Nat} (h : DW b B w st N) (n : Int) (h7 : 7 < n) (hp : Int) (hN : N ≤ 17592186044400) :
    Calls Tryd.prog 36 #[.pointer (some ⟨b, 0, none⟩), .agg #[.int .i64 n, .bool true, .int .i64 hp], .bool true] w (DA b B w (thenW st (svW true ⟨n, true, hp⟩)) (N + 1)) := by
  have d5 : (n != 5) = true := by simp; omega
  have d6 : (n == 6) = false := by simp; omega
  have d7 : (n == 7) = false := by simp; omega
  have dl : decide (1 ≤ n) = true := by simp; omega
  have dh : decide (n ≤ 4) = false := by simp; omega
  obtain ⟨q, hq⟩ : ∃ q, IntKind.i64.wrap (128 - n) = q := ⟨_, rfl⟩
  obtain ⟨r, hr⟩ : ∃ r, IntKind.u8.wrap q = r := ⟨_, rfl⟩
  have E : Hid (thenW (thenW st (needW false 4)) (.ok [r]) = thenW st (svW true ⟨n, true, hp⟩)) := sv_eq (fun _ => by contradiction) (fun _ => by rw [val_of (by omega) (by omega) (by omega)]; exact plain_bad (Or.inl rfl))
  have S0 : Hid (DW b B (w.alloc (.cells #[.int .i64 n, .bool true, .int .i64 hp] 23)) st N) := h.grew ((Grew.refl w).alloc _)
  have T0 : Hid (WT b B w (w.alloc (.cells #[.int .i64 n, .bool true, .int .i64 hp] 23))) := WT.of_grew ((Grew.refl w).alloc _)
  have hbx : (w.alloc (.cells #[.int .i64 n, .bool true, .int .i64 hp] 23)).heap[w.heap.size]? = some (.cells #[.int .i64 n, .bool true, .int .i64 hp] 23 (0, 0)) := heap_alloc_last w _
  have hb : b < w.heap.size := h.blt
  have hnP : w.heap.size ≠ b := by omega
  clear h
  go_enter Tryd.func36, Tryd.ntmps36
  go_wp2_with fail
  refine (must_any S0.out false 4 (by decide)).mono ?_
  rintro en w1 ⟨rfl, t1, s1⟩
  have T1 : Hid (WT b B w w1) := T0.out.trans t1
  have S1 : Hid (DW b B w1 (thenW st (needW false 4)) N) := s1
  have bxP1 : w1.heap[w.heap.size]? = some (.cells #[.int .i64 n, .bool true, .int .i64 hp] 23 (0, 0)) := t1.other hbx hnP (NoT.of hbx (by decide))
  have fP0 := cell_of bxP1 0
  have fP1 := cell_of bxP1 1
  have fP2 := cell_of bxP1 2
  simp at fP0 fP1 fP2
  clear t1 s1 T0 S0 hbx
  obtain ⟨o1, e1, l1, h11, h21, h31, h41⟩ := S1.out.ex
  obtain ⟨oa1, oc1, rfl⟩ := row_one h21
  have c01 := cell_of h11 0
  simp at c01
  have R1 : Hid (w1.ownsRow B 5 1 (.slice oa1 l1.length oc1) l1.length (U8 l1)) := h21
  have O1 : Hid (w1.heap[b]? = some (dob (.slice oa1 l1.length oc1) e1)) := h11
  have E1 : Hid (StE (thenW st (needW false 4)) l1 e1) := h41
  have hlb1 : b < B := S1.out.lt
  have hBl1 : B ≤ w1.heap.size := S1.out.le
  clear h11 h21 h41
  go_wp2_with (
    at_builtin
    refine wp_appG (w := (w1.alloc (.cells #[.int .u8 r] 5))) (v := .slice oa1 l1.length oc1) (u := .slice (some ⟨w1.heap.size, 0, none⟩) 1 1) (r := [r]) rfl _ _ rfl rfl rfl (World.ownsRow.alloc R1.out _) (by simp; omega) (reads_new _ _ _) (by simp; omega) ?_
    intro v2 x2 ho2 hg2
    obtain ⟨a2, cc2, hv2⟩ := row_one ho2
    rw [List.length_append] at hv2
    subst hv2
    have A2 := dw_app (b := b) (B := B) (w := (w1.alloc (.cells #[.int .u8 r] 5))) (st := thenW st (needW false 4)) (N := N) (r := [r]) (heap_alloc O1.out _) (World.ownsRow.alloc R1.out _) h31 E1.out hlb1 (by simp; omega) ho2 hg2
    have q2 := cell_of A2.1 0
    have z2 := free_of A2.1 0
    simp at q2
    have HA2 : Hid (WT b B (w1.alloc (.cells #[.int .u8 r] 5)) (x2.setCell ⟨b, 0, none⟩ (.slice a2 (l1.length + [(r : Int)].length) cc2)) ∧ DW b B (x2.setCell ⟨b, 0, none⟩ (.slice a2 (l1.length + [(r : Int)].length) cc2)) (thenW (thenW st (needW false 4)) (.ok [r])) (N + [(r : Int)].length)) := A2.2
    have tt2 := A2.2.1
    clear A2 hg2 ho2 tt2 )
  have T2 : Hid (WT b B w (x2.setCell ⟨b, 0, none⟩ (.slice a2 (l1.length + 1) cc2))) := (T1.out.trans (WT.of_grew ((Grew.refl _).alloc _))).trans HA2.out.1
  have S2 : Hid (DW b B (x2.setCell ⟨b, 0, none⟩ (.slice a2 (l1.length + 1) cc2)) (thenW (thenW st (needW false 4)) (.ok [r])) (N + 1)) := HA2.out.2
  clear HA2 q2 z2 T1 S1 c01 R1 O1 E1 hlb1 hBl1 h31
  go_end0
  exact ⟨rfl, T2.out, by rw [← E.out]; exact S2.out.mono (by omega)⟩
set_option maxRecDepth 100000 in
set_option maxHeartbeats 2000000 in
theorem dv_hi_t_heap {b B : Nat} {w : World} {st : Except Nat (List Int)} {N : Nat} (h : DW b B w st N) (n : Int) (h7 : 7 < n) (hp : Int) (hh : hp ≠ 0) (hN : N ≤ 17592186044400) :
    Calls Tryd.prog 36 #[.pointer (some ⟨b, 0, none⟩), .agg #[.int .i64 n, .bool false, .int .i64 hp], .bool true] w (DA b B w (thenW st (svW true ⟨n, false, hp⟩)) (N + 1)) := by
  have d5 : (n != 5) = true := by simp; omega
  have d6 : (n == 6) = false := by simp; omega
  have d7 : (n == 7) = false := by simp; omega
  have dl : decide (1 ≤ n) = true := by simp; omega
  have dh : decide (n ≤ 4) = false := by simp; omega
  obtain ⟨q, hq⟩ : ∃ q, IntKind.i64.wrap (128 - n) = q := ⟨_, rfl⟩
  obtain ⟨r, hr⟩ : ∃ r, IntKind.u8.wrap q = r := ⟨_, rfl⟩
  have dhp : (hp == 0) = false := by simpa using hh
  have E : Hid (thenW (thenW st (needW false 4)) (.ok [r]) = thenW st (svW true ⟨n, false, hp⟩)) := sv_eq (fun _ => by contradiction) (fun _ => by rw [val_of (by omega) (by omega) (by omega)]; exact plain_bad (Or.inr hh))
  have S0 : Hid (DW b B (w.alloc (.cells #[.int .i64 n, .bool false, .int .i64 hp] 23)) st N) := h.grew ((Grew.refl w).alloc _)
  have T0 : Hid (WT b B w (w.alloc (.cells #[.int .i64 n, .bool false, .int .i64 hp] 23))) := WT.of_grew ((Grew.refl w).alloc _)
  have hbx : (w.alloc (.cells #[.int .i64 n, .bool false, .int .i64 hp] 23)).heap[w.heap.size]? = some (.cells #[.int .i64 n, .bool false, .int .i64 hp] 23 (0, 0)) := heap_alloc_last w _
  have hb : b < w.heap.size := h.blt
  have hnP : w.heap.size ≠ b := by omega
  clear h
  go_enter Tryd.func36, Tryd.ntmps36
  go_wp2_with fail
  refine (must_any S0.out false 4 (by decide)).mono ?_
  rintro en w1 ⟨rfl, t1, s1⟩
  have T1 : Hid (WT b B w w1) := T0.out.trans t1
  have S1 : Hid (DW b B w1 (thenW st (needW false 4)) N) := s1
  have bxP1 : w1.heap[w.heap.size]? = some (.cells #[.int .i64 n, .bool false, .int .i64 hp] 23 (0, 0)) := t1.other hbx hnP (NoT.of hbx (by decide))
  have fP0 := cell_of bxP1 0
  have fP1 := cell_of bxP1 1
  have fP2 := cell_of bxP1 2
  simp at fP0 fP1 fP2
  clear t1 s1 T0 S0 hbx
  obtain ⟨o1, e1, l1, h11, h21, h31, h41⟩ := S1.out.ex
  obtain ⟨oa1, oc1, rfl⟩ := row_one h21
  have c01 := cell_of h11 0
  simp at c01
  have R1 : Hid (w1.ownsRow B 5 1 (.slice oa1 l1.length oc1) l1.length (U8 l1)) := h21
  have O1 : Hid (w1.heap[b]? = some (dob (.slice oa1 l1.length oc1) e1)) := h11
  have E1 : Hid (StE (thenW st (needW false 4)) l1 e1) := h41
  have hlb1 : b < B := S1.out.lt
  have hBl1 : B ≤ w1.heap.size := S1.out.le
  clear h11 h21 h41
  go_wp2_with (
    at_builtin
    refine wp_appG (w := (w1.alloc (.cells #[.int .u8 r] 5))) (v := .slice oa1 l1.length oc1) (u := .slice (some ⟨w1.heap.size, 0, none⟩) 1 1) (r := [r]) rfl _ _ rfl rfl rfl (World.ownsRow.alloc R1.out _) (by simp; omega) (reads_new _ _ _) (by simp; omega) ?_
    intro v2 x2 ho2 hg2
    obtain ⟨a2, cc2, hv2⟩ := row_one ho2
    rw [List.length_append] at hv2
    subst hv2
    have A2 := dw_app (b := b) (B := B) (w := (w1.alloc (.cells #[.int .u8 r] 5))) (st := thenW st (needW false 4)) (N := N) (r := [r]) (heap_alloc O1.out _) (World.ownsRow.alloc R1.out _) h31 E1.out hlb1 (by simp; omega) ho2 hg2
    have q2 := cell_of A2.1 0
    have z2 := free_of A2.1 0
    simp at q2
    have HA2 : Hid (WT b B (w1.alloc (.cells #[.int .u8 r] 5)) (x2.setCell ⟨b, 0, none⟩ (.slice a2 (l1.length + [(r : Int)].length) cc2)) ∧ DW b B (x2.setCell ⟨b, 0, none⟩ (.slice a2 (l1.length + [(r : Int)].length) cc2)) (thenW (thenW st (needW false 4)) (.ok [r])) (N + [(r : Int)].length)) := A2.2
    have tt2 := A2.2.1
    clear A2 hg2 ho2 tt2 )
  have T2 : Hid (WT b B w (x2.setCell ⟨b, 0, none⟩ (.slice a2 (l1.length + 1) cc2))) := (T1.out.trans (WT.of_grew ((Grew.refl _).alloc _))).trans HA2.out.1
  have S2 : Hid (DW b B (x2.setCell ⟨b, 0, none⟩ (.slice a2 (l1.length + 1) cc2)) (thenW (thenW st (needW false 4)) (.ok [r])) (N + 1)) := HA2.out.2
  clear HA2 q2 z2 T1 S1 c01 R1 O1 E1 hlb1 hBl1 h31
  go_end0
  exact ⟨rfl, T2.out, by rw [← E.out]; exact S2.out.mono (by omega)⟩
set_option maxRecDepth 100000 in
set_option maxHeartbeats 2000000 in
theorem dv_hi_f_good {b B : Nat} {w : World} {st : Except Nat (List Int)} {N : Nat} (h : DW b B w st N) (n : Int) (h7 : 7 < n) (hN : N ≤ 17592186044400) :
    Calls Tryd.prog 36 #[.pointer (some ⟨b, 0, none⟩), .agg #[.int .i64 n, .bool false, .int .i64 0], .bool false] w (DA b B w (thenW st (svW false ⟨n, false, 0⟩)) (N + 1)) := by
  have d5 : (n != 5) = true := by simp; omega
  have d6 : (n == 6) = false := by simp; omega
  have d7 : (n == 7) = false := by simp; omega
  have dl : decide (1 ≤ n) = true := by simp; omega
  have dh : decide (n ≤ 4) = false := by simp; omega
  obtain ⟨q, hq⟩ : ∃ q, IntKind.i64.wrap (128 - n) = q := ⟨_, rfl⟩
  obtain ⟨r, hr⟩ : ∃ r, IntKind.u8.wrap q = r := ⟨_, rfl⟩
  have E : Hid (thenW (thenW st (needW false 4)) (.ok [r]) = thenW st (svW false ⟨n, false, 0⟩)) := sv_eq (fun _ => by contradiction) (fun _ => by rw [val_of (by omega) (by omega) (by omega), plain_good, codeR_none (codeW1_out (by omega))])
  have S0 : Hid (DW b B (w.alloc (.cells #[.int .i64 n, .bool false, .int .i64 0] 23)) st N) := h.grew ((Grew.refl w).alloc _)
  have T0 : Hid (WT b B w (w.alloc (.cells #[.int .i64 n, .bool false, .int .i64 0] 23))) := WT.of_grew ((Grew.refl w).alloc _)
  have hbx : (w.alloc (.cells #[.int .i64 n, .bool false, .int .i64 0] 23)).heap[w.heap.size]? = some (.cells #[.int .i64 n, .bool false, .int .i64 0] 23 (0, 0)) := heap_alloc_last w _
  have hb : b < w.heap.size := h.blt
  have hnP : w.heap.size ≠ b := by omega
  clear h
  go_enter Tryd.func36, Tryd.ntmps36
  go_wp2_with fail
  refine (must_any S0.out false 4 (by decide)).mono ?_
  rintro en w1 ⟨rfl, t1, s1⟩
  have T1 : Hid (WT b B w w1) := T0.out.trans t1
  have S1 : Hid (DW b B w1 (thenW st (needW false 4)) N) := s1
  have bxP1 : w1.heap[w.heap.size]? = some (.cells #[.int .i64 n, .bool false, .int .i64 0] 23 (0, 0)) := t1.other hbx hnP (NoT.of hbx (by decide))
  have fP0 := cell_of bxP1 0
  have fP1 := cell_of bxP1 1
  have fP2 := cell_of bxP1 2
  simp at fP0 fP1 fP2
  clear t1 s1 T0 S0 hbx
  obtain ⟨o1, e1, l1, h11, h21, h31, h41⟩ := S1.out.ex
  obtain ⟨oa1, oc1, rfl⟩ := row_one h21
  have c01 := cell_of h11 0
  simp at c01
  have R1 : Hid (w1.ownsRow B 5 1 (.slice oa1 l1.length oc1) l1.length (U8 l1)) := h21
  have O1 : Hid (w1.heap[b]? = some (dob (.slice oa1 l1.length oc1) e1)) := h11
  have E1 : Hid (StE (thenW st (needW false 4)) l1 e1) := h41
  have hlb1 : b < B := S1.out.lt
  have hBl1 : B ≤ w1.heap.size := S1.out.le
  clear h11 h21 h41
  go_wp2_with (
    at_builtin
    refine wp_appG (w := (w1.alloc (.cells #[.int .u8 r] 5))) (v := .slice oa1 l1.length oc1) (u := .slice (some ⟨w1.heap.size, 0, none⟩) 1 1) (r := [r]) rfl _ _ rfl rfl rfl (World.ownsRow.alloc R1.out _) (by simp; omega) (reads_new _ _ _) (by simp; omega) ?_
    intro v2 x2 ho2 hg2
    obtain ⟨a2, cc2, hv2⟩ := row_one ho2
    rw [List.length_append] at hv2
    subst hv2
    have A2 := dw_app (b := b) (B := B) (w := (w1.alloc (.cells #[.int .u8 r] 5))) (st := thenW st (needW false 4)) (N := N) (r := [r]) (heap_alloc O1.out _) (World.ownsRow.alloc R1.out _) h31 E1.out hlb1 (by simp; omega) ho2 hg2
    have q2 := cell_of A2.1 0
    have z2 := free_of A2.1 0
    simp at q2
    have HA2 : Hid (WT b B (w1.alloc (.cells #[.int .u8 r] 5)) (x2.setCell ⟨b, 0, none⟩ (.slice a2 (l1.length + [(r : Int)].length) cc2)) ∧ DW b B (x2.setCell ⟨b, 0, none⟩ (.slice a2 (l1.length + [(r : Int)].length) cc2)) (thenW (thenW st (needW false 4)) (.ok [r])) (N + [(r : Int)].length)) := A2.2
    have tt2 := A2.2.1
    clear A2 hg2 ho2 tt2 )
  have T2 : Hid (WT b B w (x2.setCell ⟨b, 0, none⟩ (.slice a2 (l1.length + 1) cc2))) := (T1.out.trans (WT.of_grew ((Grew.refl _).alloc _))).trans HA2.out.1
  have S2 : Hid (DW b B (x2.setCell ⟨b, 0, none⟩ (.slice a2 (l1.length + 1) cc2)) (thenW (thenW st (needW false 4)) (.ok [r])) (N + 1)) := HA2.out.2
  clear HA2 q2 z2 T1 S1 c01 R1 O1 E1 hlb1 hBl1 h31
  go_end0
  exact ⟨rfl, T2.out, by rw [← E.out]; exact S2.out.mono (by omega)⟩
set_option maxRecDepth 100000 in
set_option maxHeartbeats 2000000 in
theorem dv_hi_f_null {b B : Nat} {w : World} {st : Except Nat (List Int)} {N : Nat} (h : DW b B w st N) (n : Int) (h7 : 7 < n) (hp : Int) (hN : N ≤ 17592186044400) :
    Calls Tryd.prog 36 #[.pointer (some ⟨b, 0, none⟩), .agg #[.int .i64 n, .bool true, .int .i64 hp], .bool false] w (DA b B w (thenW st (svW false ⟨n, true, hp⟩)) (N + 1)) := by
  have d5 : (n != 5) = true := by simp; omega
  have d6 : (n == 6) = false := by simp; omega
  have d7 : (n == 7) = false := by simp; omega
  have dl : decide (1 ≤ n) = true := by simp; omega
  have dh : decide (n ≤ 4) = false := by simp; omega
  obtain ⟨q, hq⟩ : ∃ q, IntKind.i64.wrap (128 - n) = q := ⟨_, rfl⟩
  obtain ⟨r, hr⟩ : ∃ r, IntKind.u8.wrap q = r := ⟨_, rfl⟩
  have E : Hid (thenW (thenW st (needW false 4)) (.ok [r]) = thenW st (svW false ⟨n, true, hp⟩)) := sv_eq (fun _ => by contradiction) (fun _ => by rw [val_of (by omega) (by omega) (by omega)]; exact plain_bad (Or.inl rfl))
  have S0 : Hid (DW b B (w.alloc (.cells #[.int .i64 n, .bool true, .int .i64 hp] 23)) st N) := h.grew ((Grew.refl w).alloc _)
  have T0 : Hid (WT b B w (w.alloc (.cells #[.int .i64 n, .bool true, .int .i64 hp] 23))) := WT.of_grew ((Grew.refl w).alloc _)
  have hbx : (w.alloc (.cells #[.int .i64 n, .bool true, .int .i64 hp] 23)).heap[w.heap.size]? = some (.cells #[.int .i64 n, .bool true, .int .i64 hp] 23 (0, 0)) := heap_alloc_last w _
  have hb : b < w.heap.size := h.blt
  have hnP : w.heap.size ≠ b := by omega
  clear h
  go_enter Tryd.func36, Tryd.ntmps36
  go_wp2_with fail
  refine (must_any S0.out false 4 (by decide)).mono ?_
  rintro en w1 ⟨rfl, t1, s1⟩
  have T1 : Hid (WT b B w w1) := T0.out.trans t1
  have S1 : Hid (DW b B w1 (thenW st (needW false 4)) N) := s1
  have bxP1 : w1.heap[w.heap.size]? = some (.cells #[.int .i64 n, .bool true, .int .i64 hp] 23 (0, 0)) := t1.other hbx hnP (NoT.of hbx (by decide))
  have fP0 := cell_of bxP1 0
  have fP1 := cell_of bxP1 1
  have fP2 := cell_of bxP1 2
  simp at fP0 fP1 fP2
  clear t1 s1 T0 S0 hbx
  obtain ⟨o1, e1, l1, h11, h21, h31, h41⟩ := S1.out.ex
  obtain ⟨oa1, oc1, rfl⟩ := row_one h21
  have c01 := cell_of h11 0
  simp at c01
  have R1 : Hid (w1.ownsRow B 5 1 (.slice oa1 l1.length oc1) l1.length (U8 l1)) := h21
  have O1 : Hid (w1.heap[b]? = some (dob (.slice oa1 l1.length oc1) e1)) := h11
  have E1 : Hid (StE (thenW st (needW false 4)) l1 e1) := h41
  have hlb1 : b < B := S1.out.lt
  have hBl1 : B ≤ w1.heap.size := S1.out.le
  clear h11 h21 h41
  go_wp2_with (
    at_builtin
    refine wp_appG (w := (w1.alloc (.cells #[.int .u8 r] 5))) (v := .slice oa1 l1.length oc1) (u := .slice (some ⟨w1.heap.size, 0, none⟩) 1 1) (r := [r]) rfl _ _ rfl rfl rfl (World.ownsRow.alloc R1.out _) (by simp; omega) (reads_new _ _ _) (by simp; omega) ?_
    intro v2 x2 ho2 hg2
    obtain ⟨a2, cc2, hv2⟩ := row_one ho2
    rw [List.length_append] at hv2
    subst hv2
    have A2 := dw_app (b := b) (B := B) (w := (w1.alloc (.cells #[.int .u8 r] 5))) (st := thenW st (needW false 4)) (N := N) (r := [r]) (heap_alloc O1.out _) (World.ownsRow.alloc R1.out _) h31 E1.out hlb1 (by simp; omega) ho2 hg2
    have q2 := cell_of A2.1 0
    have z2 := free_of A2.1 0
    simp at q2
    have HA2 : Hid (WT b B (w1.alloc (.cells #[.int .u8 r] 5)) (x2.setCell ⟨b, 0, none⟩ (.slice a2 (l1.length + [(r : Int)].length) cc2)) ∧ DW b B (x2.setCell ⟨b, 0, none⟩ (.slice a2 (l1.length + [(r : Int)].length) cc2)) (thenW (thenW st (needW false 4)) (.ok [r])) (N + [(r : Int)].length)) := A2.2
    have tt2 := A2.2.1
    clear A2 hg2 ho2 tt2 )
  have T2 : Hid (WT b B w (x2.setCell ⟨b, 0, none⟩ (.slice a2 (l1.length + 1) cc2))) := (T1.out.trans (WT.of_grew ((Grew.refl _).alloc _))).trans HA2.out.1
  have S2 : Hid (DW b B (x2.setCell ⟨b, 0, none⟩ (.slice a2 (l1.length + 1) cc2)) (thenW (thenW st (needW false 4)) (.ok [r])) (N + 1)) := HA2.out.2
  clear HA2 q2 z2 T1 S1 c01 R1 O1 E1 hlb1 hBl1 h31
  go_end0
  exact ⟨rfl, T2.out, by rw [← E.out]; exact S2.out.mono (by omega)⟩
set_option maxRecDepth 100000 in
set_option maxHeartbeats 2000000 in
theorem dv_hi_f_heap {b B : Nat} {w : World} {st : Except Nat (List Int)} {N : Nat} (h : DW b B w st N) (n : Int) (h7 : 7 < n) (hp : Int) (hh : hp ≠ 0) (hN : N ≤ 17592186044400) :
    Calls Tryd.prog 36 #[.pointer (some ⟨b, 0, none⟩), .agg #[.int .i64 n, .bool false, .int .i64 hp], .bool false] w (DA b B w (thenW st (svW false ⟨n, false, hp⟩)) (N + 1)) := by
  have d5 : (n != 5) = true := by simp; omega
  have d6 : (n == 6) = false := by simp; omega
  have d7 : (n == 7) = false := by simp; omega
  have dl : decide (1 ≤ n) = true := by simp; omega
  have dh : decide (n ≤ 4) = false := by simp; omega
  obtain ⟨q, hq⟩ : ∃ q, IntKind.i64.wrap (128 - n) = q := ⟨_, rfl⟩
  obtain ⟨r, hr⟩ : ∃ r, IntKind.u8.wrap q = r := ⟨_, rfl⟩
  have dhp : (hp == 0) = false := by simpa using hh
  have E : Hid (thenW (thenW st (needW false 4)) (.ok [r]) = thenW st (svW false ⟨n, false, hp⟩)) := sv_eq (fun _ => by contradiction) (fun _ => by rw [val_of (by omega) (by omega) (by omega)]; exact plain_bad (Or.inr hh))
  have S0 : Hid (DW b B (w.alloc (.cells #[.int .i64 n, .bool false, .int .i64 hp] 23)) st N) := h.grew ((Grew.refl w).alloc _)
  have T0 : Hid (WT b B w (w.alloc (.cells #[.int .i64 n, .bool false, .int .i64 hp] 23))) := WT.of_grew ((Grew.refl w).alloc _)
  have hbx : (w.alloc (.cells #[.int .i64 n, .bool false, .int .i64 hp] 23)).heap[w.heap.size]? = some (.cells #[.int .i64 n, .bool false, .int .i64 hp] 23 (0, 0)) := heap_alloc_last w _
  have hb : b < w.heap.size := h.blt
  have hnP : w.heap.size ≠ b := by omega
  clear h
  go_enter Tryd.func36, Tryd.ntmps36
  go_wp2_with fail
  refine (must_any S0.out false 4 (by decide)).mono ?_
  rintro en w1 ⟨rfl, t1, s1⟩
  have T1 : Hid (WT b B w w1) := T0.out.trans t1
  have S1 : Hid (DW b B w1 (thenW st (needW false 4)) N) := s1
  have bxP1 : w1.heap[w.heap.size]? = some (.cells #[.int .i64 n, .bool false, .int .i64 hp] 23 (0, 0)) := t1.other hbx hnP (NoT.of hbx (by decide))
  have fP0 := cell_of bxP1 0
  have fP1 := cell_of bxP1 1
  have fP2 := cell_of bxP1 2
  simp at fP0 fP1 fP2
  clear t1 s1 T0 S0 hbx
  obtain ⟨o1, e1, l1, h11, h21, h31, h41⟩ := S1.out.ex
  obtain ⟨oa1, oc1, rfl⟩ := row_one h21
  have c01 := cell_of h11 0
  simp at c01
  have R1 : Hid (w1.ownsRow B 5 1 (.slice oa1 l1.length oc1) l1.length (U8 l1)) := h21
  have O1 : Hid (w1.heap[b]? = some (dob (.slice oa1 l1.length oc1) e1)) := h11
  have E1 : Hid (StE (thenW st (needW false 4)) l1 e1) := h41
  have hlb1 : b < B := S1.out.lt
  have hBl1 : B ≤ w1.heap.size := S1.out.le
  clear h11 h21 h41
  go_wp2_with (
    at_builtin
    refine wp_appG (w := (w1.alloc (.cells #[.int .u8 r] 5))) (v := .slice oa1 l1.length oc1) (u := .slice (some ⟨w1.heap.size, 0, none⟩) 1 1) (r := [r]) rfl _ _ rfl rfl rfl (World.ownsRow.alloc R1.out _) (by simp; omega) (reads_new _ _ _) (by simp; omega) ?_
    intro v2 x2 ho2 hg2
    obtain ⟨a2, cc2, hv2⟩ := row_one ho2
    rw [List.length_append] at hv2
    subst hv2
    have A2 := dw_app (b := b) (B := B) (w := (w1.alloc (.cells #[.int .u8 r] 5))) (st := thenW st (needW false 4)) (N := N) (r := [r]) (heap_alloc O1.out _) (World.ownsRow.alloc R1.out _) h31 E1.out hlb1 (by simp; omega) ho2 hg2
    have q2 := cell_of A2.1 0
    have z2 := free_of A2.1 0
    simp at q2
    have HA2 : Hid (WT b B (w1.alloc (.cells #[.int .u8 r] 5)) (x2.setCell ⟨b, 0, none⟩ (.slice a2 (l1.length + [(r : Int)].length) cc2)) ∧ DW b B (x2.setCell ⟨b, 0, none⟩ (.slice a2 (l1.length + [(r : Int)].length) cc2)) (thenW (thenW st (needW false 4)) (.ok [r])) (N + [(r : Int)].length)) := A2.2
    have tt2 := A2.2.1
    clear A2 hg2 ho2 tt2 )
  have T2 : Hid (WT b B w (x2.setCell ⟨b, 0, none⟩ (.slice a2 (l1.length + 1) cc2))) := (T1.out.trans (WT.of_grew ((Grew.refl _).alloc _))).trans HA2.out.1
  have S2 : Hid (DW b B (x2.setCell ⟨b, 0, none⟩ (.slice a2 (l1.length + 1) cc2)) (thenW (thenW st (needW false 4)) (.ok [r])) (N + 1)) := HA2.out.2
  clear HA2 q2 z2 T1 S1 c01 R1 O1 E1 hlb1 hBl1 h31
  go_end0
  exact ⟨rfl, T2.out, by rw [← E.out]; exact S2.out.mono (by omega)⟩
end Go.Proofs.YtfnfbioenngjoaaDoor
