/-
  The document's reading: the walk of val at words, of done and of Parse; no statement is proved here.
-/
import Derived.Test.YtmcljnohdknpoaaDoorDVal
import Derived.Test.YtmcljnohdknpoaaDoorAtt
namespace Go.Proofs.YtmcljnohdknpoaaDoor
open Go.RowKit
set_option linter.unusedVariables false
set_option linter.unusedSimpArgs false
set_option linter.constructorNameAsVariable false

/- The place is just where the next word begins. -/
def EX (w : World) (b : Nat) (s : ByteArray) : Except Nat Nat → Prop
  | .ok p => w.heap[b]? = some (rdg s p false) ∧ At s p
  | .error f => w.heap[b]? = some (rdg s f true)
theorem EX.st {w : World} {b : Nat} {s : ByteArray} {st : Except Nat Nat} (h : EX w b s st) : ST w b s st := by
  cases st with
  | ok p => exact ⟨p, h.1, h.2.1, skp_at h.2⟩
  | error f => exact h
def plc : Except Nat Nat → Nat
  | .ok p => p
  | .error f => f
def isbad : Except Nat Nat → Bool
  | .ok _ => false
  | .error _ => true
theorem EX.obj {w : World} {b : Nat} {s : ByteArray} {st : Except Nat Nat} (h : EX w b s st) : w.heap[b]? = some (rdg s (plc st) (isbad st)) := by
  cases st with
  | ok p => exact h.1
  | error f => exact h
theorem token_ex {w : World} {b : Nat} {s : ByteArray} {st : Except Nat Nat} (h : ST w b s st) (hs : s.size ≤ 65536) :
    Calls Tryd.prog 42 #[.pointer (some ⟨b, 0, none⟩)] w fun en w' => en = .returned (.string (tokS s st)) ∧ Turn [b] w w' ∧ EX w' b s st := by
  cases st with
  | ok p =>
    obtain ⟨q, h1, h2, rfl⟩ := h
    refine (token_good b s q w h1 h2 hs).mono ?_
    rintro en w' ⟨rfl, t, h'⟩
    exact ⟨rfl, t, h', At.skp h2⟩
  | error f =>
    refine (token_bad b s f w h).mono ?_
    rintro en w' ⟨rfl, n, rfl⟩
    exact ⟨rfl, (Turn.refl _ _).drewN n, h⟩
def elseV (s : ByteArray) (st : Except Nat Nat) : VT := match numIdx (tokS s st) with
  | some m => ⟨m, false, 0⟩
  | none => ⟨0, false, 0⟩
def elseT (s : ByteArray) (st : Except Nat Nat) : Except Nat Nat := match numIdx (tokS s st) with
  | some _ => mustS s (tokS s st) st
  | none => .error (plc st)
theorem cell2_of {w : World} {b : Nat} {s : ByteArray} {p : Nat} {bad : Bool} (h : w.heap[b]? = some (rdg s p bad)) : w.cell? ⟨b, 2, none⟩ = some (.bool bad) := by rw [cell_of h]; rfl
theorem numW_all : ∀ k : Fin 8, k.1 ≠ 0 → k.1 ≠ 5 → numW k.1 ≠ ⟨#[]⟩ := by decide +kernel
theorem numW_ne (k : Nat) (hk : k < 8) (h0 : k ≠ 0) (h5 : k ≠ 5) : numW k ≠ ⟨#[]⟩ := numW_all ⟨k, hk⟩ h0 h5
set_option maxRecDepth 100000 in
set_option maxHeartbeats 1000000 in
theorem dval_else {w : World} {b : Nat} {s : ByteArray} {st : Except Nat Nat} (hg : ST w b s st) (hs : s.size ≤ 65536) (h1 : isB s LP st = false) (h2 : isS s LP st = st) :
    Calls Tryd.prog 23 #[.pointer (some ⟨b, 0, none⟩)] w fun en w' => en = .returned (elseV s st).v ∧ Turn [b] w w' ∧ ST w' b s (elseT s st) := by
  have hb : b < w.heap.size := hg.lt
  have S0 : Hid (ST (w.alloc (.cells #[.int .i64 0, .bool false, .int .i64 0] 23)) b s st) := hg.grew ((Grew.refl w).alloc _)
  have T0 : Hid (Turn [b] w (w.alloc (.cells #[.int .i64 0, .bool false, .int .i64 0] 23))) := (Turn.refl [b] w).alloc _
  have N0 : Hid ((w.alloc (.cells #[.int .i64 0, .bool false, .int .i64 0] 23)).heap[w.heap.size]? = some (.cells #[.int .i64 0, .bool false, .int .i64 0] 23 (0, 0))) := heap_alloc_last _ _
  have C := is_any S0.out hs LP
  rw [h1, h2] at C
  clear hg h1 h2 S0
  obtain ⟨X, hX⟩ : ∃ X, X = elseV s st := ⟨_, rfl⟩
  obtain ⟨Y, hY⟩ : ∃ Y, Y = elseT s st := ⟨_, rfl⟩
  rw [← hX, ← hY]
  have HX : Hid (X = elseV s st) := hX
  have HY : Hid (Y = elseT s st) := hY
  clear hX hY
  unfold elseV at HX
  unfold elseT at HY
  go_enter Tryd.func23, Tryd.ntmps23
  go_wp2_with fail
  refine C.mono ?_
  rintro en w1 ⟨rfl, t1, g1⟩
  have T1 : Hid (Turn [b] w w1) := T0.out.trans t1
  have N1 : Hid (w1.heap[w.heap.size]? = some (.cells #[.int .i64 0, .bool false, .int .i64 0] 23 (0, 0))) := t1.other N0.out (by simp; omega)
  have D := token_ex g1 hs
  clear C t1 g1 T0 N0
  go_wp2_with fail
  refine D.mono ?_
  rintro en w2 ⟨rfl, t2, s2⟩
  have T2 : Hid (Turn [b] w w2) := T1.out.trans t2
  have N2 : Hid (w2.heap[w.heap.size]? = some (.cells #[.int .i64 0, .bool false, .int .i64 0] 23 (0, 0))) := t2.other N1.out (by simp; omega)
  have S2 : Hid (EX w2 b s st) := s2
  clear D t2 s2 T1 N1
  obtain ⟨x, hx⟩ : ∃ x, x = tokS s st := ⟨_, rfl⟩
  rw [← hx] at HX HY ⊢
  clear hx
  go_wp2_with fail
  cases hm : numIdx x with
  | some m =>
    obtain ⟨hm8, hm0, hmx, hlow⟩ := numIdx_some hm
    rw [hm] at HX HY
    have HX' : Hid (X = ⟨m, false, 0⟩) := HX.out
    have HY' : Hid (Y = mustS s x st) := HY.out
    have hm1 : 1 ≤ m := by
      rcases Nat.eq_zero_or_pos m with h | h
      · subst h; exact absurd rfl hm0
      · exact h
    have hm5 : m ≠ 5 := by
      rintro rfl
      exact absurd rfl hm0
    clear HX HY hm
    go_loop [5] (fun i_ => ∃ k : Nat, i_ = .int .i64 k ∧ 1 ≤ k ∧ k ≤ m) (fun i_ => m - (intOf i_).toNat)
    case atStart => exact ⟨1, rfl, Nat.le_refl _, hm1⟩
    case round =>
      obtain ⟨k, rfl, hk1, hk⟩ := hrel
      have d7 : decide ((k : Int) ≤ 7) = true := by simp; omega
      by_cases hkm : k = m
      · subst hkm
        have d5 : ((k : Int) != 5) = true := by simp; omega
        have W := fun w => word_num k hm8 (by omega) hm5 w
        rw [show ((k - 1 : Nat) : Int) = (k : Int) - 1 from by omega, hmx] at W
        have hsx := same_str x
        have M := must_any S2.out.st hs x
        clear hlow hm0 hmx
        go_wp2_with fail
        refine (W _).mono ?_
        rintro en w3 ⟨rfl, h3⟩
        obtain rfl := h3.symm
        go_wp2_with fail
        refine M.mono ?_
        rintro en w4 ⟨rfl, t4, s4⟩
        have T4 : Hid (Turn [b] w w4) := T2.out.trans t4
        have n4 := t4.other N2.out (by simp; omega)
        have S4 : Hid (ST w4 b s (mustS s x st)) := s4
        have c0 := cell_of n4 0
        have c1 := cell_of n4 1
        have c2 := cell_of n4 2
        have z0 := free_of n4 0
        have z1 := free_of n4 1
        have z2 := free_of n4 2
        simp at c0 c1 c2
        clear M t4 s4 n4 W
        go_wp2_with fail
        refine bodyPost_ret (v := vt k false 0) (by simp [results, Tryd.results23, go_sem, vt, c0, c1, c2]) rfl ?_
        rw [HX'.out, HY'.out]
        exact ⟨rfl, T4.out.set3 _ (Nat.le_refl _) _ _ _, ((S4.out.set (q := ⟨w.heap.size, 0, none⟩) (by simp; omega) _).set (q := ⟨w.heap.size, 1, none⟩) (by simp; omega) _).set (q := ⟨w.heap.size, 2, none⟩) (by simp; omega) _⟩
      · by_cases hk5 : k = 5
        · subst hk5
          clear hlow hmx
          go_wp2_with fail
          go_round
          case rel => exact ⟨6, by go_num, by omega, by omega⟩
          case measure => simp [intOf]; omega
        · have d5 : ((k : Int) != 5) = true := by simp; omega
          have W := fun w => word_num k (by omega) (by omega) hk5 w
          rw [show ((k - 1 : Nat) : Int) = (k : Int) - 1 from by omega] at W
          have hne : x ≠ numW k := by
            rcases hlow k (by omega) with h | h
            · intro hh
              exact hm0 (by rw [hmx, hh, h])
            · exact fun hh => h hh.symm
          have hsx := other_str hne
          clear hlow hm0 hmx hne
          generalize numW k = y at *
          go_wp2_with fail
          refine (W _).mono ?_
          rintro en w3 ⟨rfl, h3⟩
          obtain rfl := h3.symm
          go_wp2_with fail
          go_round
          case rel => exact ⟨k + 1, by go_num, by omega, by omega⟩
          case measure => simp [intOf]; omega
  | none =>
    have hlow := numIdx_none hm
    rw [hm] at HX HY
    have HX' : Hid (X = ⟨0, false, 0⟩) := HX.out
    have HY' : Hid (Y = .error (plc st)) := HY.out
    clear HX HY hm
    go_loop [5] (fun i_ => ∃ k : Nat, i_ = .int .i64 k ∧ 1 ≤ k ∧ k ≤ 8) (fun i_ => 8 - (intOf i_).toNat)
    case atStart => exact ⟨1, rfl, Nat.le_refl _, by omega⟩
    case round =>
      obtain ⟨k, rfl, hk1, hk⟩ := hrel
      by_cases hkm : k = 8
      · subst hkm
        have o2 := S2.out.obj
        have c2 := cell2_of o2
        have z2 := free_of o2 2
        have n2 := N2.out
        have O2 : Hid (w2.heap[b]? = some (rdg s (plc st) (isbad st))) := o2
        have a0 := cell_of n2 0
        have a1 := cell_of n2 1
        have a2 := cell_of n2 2
        have y0 := free_of n2 0
        have y1 := free_of n2 1
        have y2 := free_of n2 2
        simp at a0 a1 a2
        clear hlow o2 n2
        go_wp2_with fail
        refine bodyPost_ret (v := vt 0 false 0) (by simp [results, Tryd.results23, go_sem, vt, a0, a1, a2]) rfl ?_
        rw [HX'.out, HY'.out]
        have s5 : ST (w2.setCell ⟨b, 2, none⟩ (.bool true)) b s (.error (plc st)) := rdg_set2 O2.out true
        exact ⟨rfl, (T2.out.set (p := ⟨b, 2, none⟩) (Or.inl (by simp)) _).set3 _ (Nat.le_refl _) _ _ _, ((s5.set (q := ⟨w.heap.size, 0, none⟩) (by simp; omega) _).set (q := ⟨w.heap.size, 1, none⟩) (by simp; omega) _).set (q := ⟨w.heap.size, 2, none⟩) (by simp; omega) _⟩
      · have d7 : decide ((k : Int) ≤ 7) = true := by simp; omega
        by_cases hk5 : k = 5
        · subst hk5
          clear hlow
          go_wp2_with fail
          go_round
          case rel => exact ⟨6, by go_num, by omega, by omega⟩
          case measure => simp [intOf]
        · have d5 : ((k : Int) != 5) = true := by simp; omega
          have W := fun w => word_num k (by omega) (by omega) hk5 w
          rw [show ((k - 1 : Nat) : Int) = (k : Int) - 1 from by omega] at W
          have hne : x ≠ numW k := by
            rcases hlow k (by omega) with h | h
            · intro hh
              exact absurd h (numW_ne k (by omega) (by omega) hk5)
            · exact fun hh => h hh.symm
          have hsx := other_str hne
          clear hlow hne
          generalize numW k = y at *
          go_wp2_with fail
          refine (W _).mono ?_
          rintro en w3 ⟨rfl, h3⟩
          obtain rfl := h3.symm
          go_wp2_with fail
          go_round
          case rel => exact ⟨k + 1, by go_num, by omega, by omega⟩
          case measure => simp [intOf]; omega
end Go.Proofs.YtmcljnohdknpoaaDoor
