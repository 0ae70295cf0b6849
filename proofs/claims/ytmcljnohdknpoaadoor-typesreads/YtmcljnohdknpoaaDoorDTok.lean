/-
  The document's reading: the walk of token; no statement is proved here.
-/
import Derived.Test.YtmcljnohdknpoaaDoorDSkip
namespace Go.Proofs.YtmcljnohdknpoaaDoor
open Go.RowKit
set_option linter.unusedVariables false
set_option linter.unusedSimpArgs false

theorem tk_end {s : ByteArray} {p : Nat} (h : At s p) (hp : ¬ p < s.size) : tk s p = ⟨#[]⟩ := by
  have h0 := h.empty.2 (by have := h.1; omega)
  exact ByteArray.ext (Array.eq_empty_of_size_eq_zero h0)
theorem tk_br {s : ByteArray} {p : Nat} (hp : p < s.size) (hb : br (bt s p) = true) : tk s p = s.extract p (p + 1) := by
  unfold tk tend; rw [if_pos ⟨hp, hb⟩]
theorem tk_lt {s : ByteArray} {p : Nat} (hb : br (bt s p) = false) : tk s p = s.extract p (ltr s p) := by
  unfold tk tend; rw [if_neg (fun h => by rw [hb] at h; exact absurd h.2 (by decide))]
theorem br_cases {c : Nat} (h : br c = true) : (c == 40) = true ∨ (c == 40) = false ∧ (c == 41) = true := by
  unfold br at h
  cases h1 : (c == 40)
  · rw [h1] at h; exact Or.inr ⟨rfl, by simpa using h⟩
  · exact Or.inl rfl
theorem br_not {c : Nat} (h : br c = false) : (c == 40) = false ∧ (c == 41) = false := by
  unfold br at h
  simpa using h
theorem icast (c : Nat) (k : Nat) : ((c : Int) == (k : Int)) = (c == k) := by rw [Bool.eq_iff_iff]; simp; omega
set_option maxRecDepth 100000 in
set_option maxHeartbeats 2000000 in
theorem token_bad (b : Nat) (s : ByteArray) (f : Nat) (w : World) (h : w.heap[b]? = some (rdg s f true)) :
    Calls Tryd.prog 42 #[.pointer (some ⟨b, 0, none⟩)] w fun en w' => en = .returned (.string ⟨#[]⟩) ∧ ∃ n, w' = w.drewN n := by
  have c2 := cell_of h 2
  simp at c2
  have C := dskip_bad b s f w h
  clear h
  go_enter Tryd.func42, Tryd.ntmps42
  go_wp2_with fail
  refine C.mono ?_
  rintro en w1 ⟨rfl, n, rfl⟩
  go_wp2_with fail
  go_quiet (fail)
  go_wp2
  go_ret
  exact ⟨by simp, _, by first | rfl | exact World.drewN_drewN _ _ _⟩
set_option maxRecDepth 100000 in
set_option maxHeartbeats 2000000 in
theorem token_good (b : Nat) (s : ByteArray) (q : Nat) (w : World) (h : w.heap[b]? = some (rdg s q false)) (hq : q ≤ s.size) (hs : s.size ≤ 65536) :
    Calls Tryd.prog 42 #[.pointer (some ⟨b, 0, none⟩)] w fun en w' => en = .returned (.string (tk s (skp s q))) ∧ Turn [b] w w' ∧ w'.heap[b]? = some (rdg s (skp s q) false) := by
  have C := dskip_good b s q w h hq hs
  have ha : At s (skp s q) := At.skp hq
  obtain ⟨p, hp⟩ : ∃ p, p = skp s q := ⟨_, rfl⟩
  rw [← hp] at C ha ⊢
  clear h hp hq
  obtain ⟨t, ht⟩ : ∃ t, t = tk s p := ⟨_, rfl⟩
  rw [← ht]
  have HT : Hid (t = tk s p) := ht
  have hps := ha.1
  clear ht
  go_enter Tryd.func42, Tryd.ntmps42
  go_wp2_with fail
  refine C.mono ?_
  rintro en w1 ⟨rfl, t1, h1⟩
  have T1 : Hid (Turn [b] w w1) := t1
  have H1 : Hid (w1.heap[b]? = some (rdg s p false)) := h1
  have c0 := cell_of h1 0
  have c1 := cell_of h1 1
  have c2 := cell_of h1 2
  simp at c0 c1 c2
  clear t1 h1 C
  by_cases hlt : p < s.size
  · have hb := bt_get hlt
    have hd : decide ((s.size : Int) ≤ (p : Int)) = false := by simp; omega
    have hd' : decide (s.size ≤ p) = false := by simp; omega
    have f40 : ((s[p].toNat : Int) == 40) = (bt s p == 40) := by rw [hb]; exact icast _ 40
    have f41 : ((s[p].toNat : Int) == 41) = (bt s p == 41) := by rw [hb]; exact icast _ 41
    cases hr : br (bt s p)
    · obtain ⟨g0, g1⟩ := br_not hr
      rw [g0] at f40
      rw [g1] at f41
      have HT' : Hid (t = s.extract p (ltr s p)) := by rw [← tk_lt hr]; exact HT
      clear hb g0 g1
      go_wp2_with fail
      go_quiet (fail)
      have T2 : Hid (Turn [b] w (w1.drewN nq)) := T1.out.drewN _
      have H2 : Hid ((w1.drewN nq).heap[b]? = some (rdg s p false)) := H1.out
      generalize w1.drewN nq = w2 at *
      clear c0 c1 c2 T1 H1
      have c0 := cell_of H2.out 0
      have c1 := cell_of H2.out 1
      simp at c0 c1
      go_wp2_with fail
      go_quiet (fail)
      have T3 : Hid (Turn [b] w (w2.drewN nq)) := T2.out.drewN _
      have H3 : Hid ((w2.drewN nq).heap[b]? = some (rdg s p false)) := H2.out
      generalize w2.drewN nq = w3 at *
      clear c0 c1 T2 H2
      have T2 : Hid (Turn [b] w w3) := T3
      have H2 : Hid (w3.heap[b]? = some (rdg s p false)) := H3
      clear T3 H3
      have c1 := cell_of H2.out 1
      simp at c1
      go_wp2_with fail
      clear c1
      have d0 := cell_of H2.out 0
      have d1 := cell_of H2.out 1
      simp at d0 d1
      clear HT hd f40 f41 hr
      go_loop [3] (fun t_ => ∃ k : Nat, t_ = .int .i64 k ∧ p ≤ k ∧ k ≤ s.size ∧ Hid (ltr s k = ltr s p)) (fun t_ => s.size - (intOf t_).toNat)
      case atStart => exact ⟨p, rfl, Nat.le_refl _, hps, rfl⟩
      case round =>
        obtain ⟨k, rfl, hpk, hks, HL⟩ := hrel
        have fin : ∀ (hs : ¬ (k < s.size ∧ bl (bt s k) = false ∧ br (bt s k) = false)), t = s.extract p k := fun hs => by rw [HT'.out, ← HL.out, ltr_off hs]
        by_cases hkl : k < s.size
        · have hb := bt_get hkl
          have hd : decide ((k : Int) < (s.size : Int)) = true := by simpa using hkl
          have C : Hid (∀ w : World, Calls Tryd.prog 62 #[.int .u8 ((s[k].toNat : Nat) : Int)] w fun e w' => e = .returned (.bool (bl (bt s k))) ∧ w' = w) := by
            intro w
            rw [hb]
            exact blank_any _ w
          have f40 : ((s[k].toNat : Int) != 40) = !(bt s k == 40) := by
            rw [hb]
            show (!((bt s k : Int) == 40)) = _
            rw [show ((bt s k : Int) == 40) = (bt s k == 40) from icast _ 40]
          have f41 : ((s[k].toNat : Int) != 41) = !(bt s k == 41) := by
            rw [hb]
            show (!((bt s k : Int) == 41)) = _
            rw [show ((bt s k : Int) == 41) = (bt s k == 41) from icast _ 41]
          cases hbl : bl (bt s k)
          · rw [hbl] at C
            cases hr : br (bt s k)
            · obtain ⟨g0, g1⟩ := br_not hr
              rw [g0, Bool.not_false] at f40
              rw [g1, Bool.not_false] at f41
              clear hb g0 g1 fin
              go_wp2_with (go_at_call 62; refine (C.out _).mono ?_; rintro e w' ⟨rfl, rfl⟩)
              go_round
              case rel => exact ⟨k + 1, by go_num, by omega, by omega, (show ltr s (k + 1) = ltr s p by rw [← HL.out, ltr_on hkl hbl hr])⟩
              case measure => simp [intOf]; omega
            · have HF : Hid (t = s.extract p k) := fin (fun h => by rw [hr] at h; exact absurd h.2.2 (by decide))
              rcases br_cases hr with g0 | ⟨g0, g1⟩
              · rw [g0, Bool.not_true] at f40
                clear hb fin f41
                go_wp2_with (go_at_call 62; refine (C.out _).mono ?_; rintro e w' ⟨rfl, rfl⟩)
                go_quiet (fail)
                go_wp2_with fail
                go_ret
                exact ⟨by rw [HF.out]; simp, T2.out.drewN _, H2.out⟩
              · rw [g0, Bool.not_false] at f40
                rw [g1, Bool.not_true] at f41
                clear hb fin
                go_wp2_with (go_at_call 62; refine (C.out _).mono ?_; rintro e w' ⟨rfl, rfl⟩)
                go_quiet (fail)
                go_wp2_with fail
                go_ret
                exact ⟨by rw [HF.out]; simp, T2.out.drewN _, H2.out⟩
          · rw [hbl] at C
            have HF : Hid (t = s.extract p k) := fin (fun h => by rw [hbl] at h; exact absurd h.2.1 (by decide))
            clear hb fin f40 f41
            go_wp2_with (go_at_call 62; refine (C.out _).mono ?_; rintro e w' ⟨rfl, rfl⟩)
            go_quiet (fail)
            go_wp2_with fail
            go_ret
            exact ⟨by rw [HF.out]; simp, T2.out.drewN _, H2.out⟩
        · have hd : decide ((k : Int) < (s.size : Int)) = false := by simp; omega
          have HF : Hid (t = s.extract p k) := fin (fun h => hkl h.1)
          clear fin
          go_wp2_with fail
          go_quiet (fail)
          go_wp2_with fail
          go_ret
          exact ⟨by rw [HF.out]; simp, T2.out.drewN _, H2.out⟩
    · rcases br_cases hr with g0 | ⟨g0, g1⟩
      · rw [g0] at f40
        have HT' : Hid (t = s.extract p (p + 1)) := by rw [← tk_br hlt hr]; exact HT
        clear hb f41
        go_wp2_with fail
        go_quiet (fail)
        go_wp2_with fail
        go_quiet (fail)
        go_wp2_with fail
        go_quiet (fail)
        go_wp2_with fail
        go_ret
        exact ⟨by rw [HT'.out]; simp, ((T1.out.drewN _).drewN _).drewN _, H1.out⟩
      · rw [g0] at f40
        rw [g1] at f41
        have HT' : Hid (t = s.extract p (p + 1)) := by rw [← tk_br hlt hr]; exact HT
        clear hb
        go_wp2_with fail
        go_quiet (fail)
        go_wp2_with fail
        go_quiet (fail)
        go_wp2_with fail
        go_quiet (fail)
        go_wp2_with fail
        go_ret
        exact ⟨by rw [HT'.out]; simp, ((T1.out.drewN _).drewN _).drewN _, H1.out⟩
  · have hd : decide ((s.size : Int) ≤ (p : Int)) = true := by simp; omega
    have HT' : Hid (t = ⟨#[]⟩) := by rw [← tk_end ha hlt]; exact HT
    go_wp2_with fail
    go_quiet (fail)
    go_wp2_with fail
    go_ret
    exact ⟨by rw [HT'.out]; simp, T1.out.drewN _, rdr_drewN H1.out _⟩
end Go.Proofs.YtmcljnohdknpoaaDoor
