/-
  The walk of the document's Utf8; no statement is proved here.
-/
import Derived.Test.YtclamdpbdafmcaaBegun
namespace Go.Proofs.Ytclamdpbdafmcaa
open Go.RowKit
set_option linter.unusedVariables false

theorem ret_place' {a a' : Int} {b b' : Bool} (h1 : a = a') (h2 : b = b') : Ending.returned (.tuple #[.int .i64 a, .bool b]) = .returned (.tuple #[.int .i64 a', .bool b']) := by rw [h1, h2]
theorem Grew.of_drewN (w : World) (n : Nat) : Grew w (w.drewN n) := (Grew.refl w).drewN n
theorem stop_run {l : List Int} {a n : Nat} {f : Int} (hf : f = l.getD a 0) (hn : n = lt f) (h0 : n ≠ 0) : stop l a = run l a n f 4 1 := by
  subst hn; subst hf; unfold stop; rw [if_neg h0]
theorem run_go {l : List Int} {a n : Nat} {f : Int} {g k : Nat} (h : k < n) (h1 : a + k < l.length) (h2 : fl f k (l.getD (a + k) 0) = true) : run l a n f (g + 1) k = run l a n f g (k + 1) := by
  simp only [run]; rw [if_pos h, if_pos ⟨h1, h2⟩]
theorem run_no {l : List Int} {a n : Nat} {f : Int} {g k : Nat} (h : k < n) (h1 : ¬ (a + k < l.length ∧ fl f k (l.getD (a + k) 0) = true)) : run l a n f (g + 1) k = k := by
  simp only [run]; rw [if_pos h, if_neg h1]
theorem run_end {l : List Int} {a n : Nat} {f : Int} {g k : Nat} (h : ¬ k < n) : run l a n f g k = k := by
  cases g with
  | zero => rfl
  | succ g => simp only [run]; rw [if_neg h]

set_option maxRecDepth 100000 in
theorem refU_none (ad : Option Addr) (cap : Nat) (w : World) :
    Calls Try.prog 11 #[.slice ad 0 cap] w fun e w' => e = .returned (.tuple #[.int .i64 0, .bool true]) ∧ Grew w w' := by
  go_enter Try.func11, Try.ntmps11
  go_wp2_with fail
  refine wp_loop_rounds 1 ?_
  rw [rounds_succ]
  go_wp2
  go_ret2
  exact ⟨rfl, Grew.refl w⟩

set_option maxRecDepth 100000 in
set_option maxHeartbeats 4000000 in
theorem refU_in (b off cap : Nat) (l : List Int) (w : World) (hlen : l.length ≤ 140737488351232) (hc : ∀ j, j < l.length → w.cell? ⟨b, off + j, none⟩ = some (.int .u8 (l.getD j 0))) (hb : Byt l) :
    Calls Try.prog 11 #[.slice (some ⟨b, off, none⟩) l.length cap] w fun e w' => e = .returned (.tuple #[.int .i64 (U l).1, .bool (U l).2]) ∧ Grew w w' := by
  obtain ⟨rU, hU⟩ : ∃ r, r = U l := ⟨_, rfl⟩
  rw [← hU]
  have HU : Hid (rU = uat l 0) := hU
  have HC : Hid (∀ j, j < l.length → w.cell? ⟨b, off + j, none⟩ = some (.int .u8 (l.getD j 0))) := hc
  have HB : Hid (Byt l) := hb
  clear hU hb hc
  go_enter Try.func11, Try.ntmps11
  go_wp2_with fail
  go_loopw [4, 5, 6] (fun at_ _ _ w' => ∃ (a d : Nat), at_ = .int .i64 a ∧ w' = w.drewN d ∧ a ≤ l.length ∧ rU = uat l a) (fun at_ _ _ _ => l.length - (intOf at_).toNat)
  case atStart => exact ⟨0, 0, rfl, rfl, by omega, HU.out⟩
  case round =>
    obtain ⟨a, d, rfl, rfl, ha, hu⟩ := hrel
    have HUP : Hid (rU = uat l a) := hu
    clear hu
    by_cases hp : a < l.length
    · obtain ⟨f, hf⟩ : ∃ f, f = l.getD a 0 := ⟨_, rfl⟩
      have hcell := HC.out a hp
      obtain ⟨hf0, hf1⟩ := HB.out a
      rw [← hf] at hcell hf0 hf1
      have cl := letter_any f
      obtain ⟨n, hn⟩ : ∃ n, n = lt f := ⟨_, rfl⟩
      have hn4 : n ≤ 4 := by have := lt_cases f; omega
      rw [← hn] at cl
      have HF : Hid (f = l.getD a 0) := hf
      have HN : Hid (n = lt f) := hn
      clear hf hn
      by_cases h0 : n = 0
      · have HW : Hid (rU = ((a : Int), false)) := by
          have hnw : ¬ whole l a := fun h => h.1 (by rw [← HF.out, ← HN.out]; exact h0)
          show rU = _
          rw [HUP.out, uat_bad hp hnw, stop, if_pos (by rw [← HF.out, ← HN.out]; exact h0)]; rfl
        subst h0
        go_wp2_with fail
        refine (cl _ hf0 hf1).mono ?_
        rintro e w1 ⟨rfl, rfl⟩
        go_wp2_with fail
        go_ret2
        exact ⟨ret_place' (by rw [HW.out]) (by rw [HW.out]), Grew.of_drewN _ _⟩
      · have HS : Hid (stop l a = run l a n f 4 1) := stop_run HF.out HN.out h0
        have h0' : ((n : Int) == 0) = false := beq_eq_false_iff_ne.2 (by omega)
        go_wp2_with fail
        refine (cl _ hf0 hf1).mono ?_
        rintro e w1 ⟨rfl, rfl⟩
        clear cl
        go_wp2_with fail
        go_loopw [6] (fun k_ w' => ∃ (k d : Nat), k_ = .int .i64 k ∧ w' = w.drewN d ∧ 1 ≤ k ∧ k ≤ n ∧ a + k ≤ l.length ∧ run l a n f 4 1 = run l a n f (5 - k) k) (fun k_ _ => n - (intOf k_).toNat)
        case atStart => exact ⟨1, d, rfl, rfl, by omega, by omega, by omega, rfl⟩
        case round =>
          obtain ⟨k, d', rfl, rfl, hk1, hkn, hak, hrun⟩ := hrel
          have HRN : Hid (run l a n f 4 1 = run l a n f (5 - k) k) := hrun
          clear hrun
          by_cases hlt : k < n
          · by_cases hin : a + k < l.length
            · obtain ⟨c, hcc⟩ : ∃ c, c = l.getD (a + k) 0 := ⟨_, rfl⟩
              have hcell2 := HC.out (a + k) hin
              rw [← hcc] at hcell2
              have cf := fun w => follows_any f c k w
              have HCC : Hid (c = l.getD (a + k) 0) := hcc
              clear hcc
              cases hfl : fl f k c with
              | false =>
                rw [hfl] at cf
                have HW : Hid (rU = (((a + k : Nat) : Int), false)) := by
                  have hs : stop l a = k := by
                    rw [HS.out, HRN.out, show 5 - k = (4 - k) + 1 from by omega, run_no hlt (by rw [← HCC.out, hfl]; simp)]
                  have hnw : ¬ whole l a := fun h => by
                    have := h.2; rw [← HF.out, ← HN.out, hs] at this; omega
                  show rU = _
                  rw [HUP.out, uat_bad hp hnw, hs]
                go_wp2_with fail
                go_quiet ((go_at_call 33; exact q_same (fun _ => cf _)))
                go_wp2_with fail
                go_ret2
                exact ⟨ret_place' (by rw [HW.out]; omega) (by rw [HW.out]), Grew.of_drewN _ _⟩
              | true =>
                rw [hfl] at cf
                go_wp2_with fail
                go_quiet ((go_at_call 33; exact q_same (fun _ => cf _)))
                go_wp2_with fail
                go_roundw
                case rel =>
                  refine ⟨k + 1, _, by go_num, rfl, by omega, by omega, by omega, ?_⟩
                  rw [HRN.out, show 5 - k = (5 - (k + 1)) + 1 from by omega, run_go hlt hin (by rw [← HCC.out]; exact hfl)]
                case measure => simp [intOf]; omega
            · have HW : Hid (rU = ((l.length : Int), false)) := by
                have hs : stop l a = k := by
                  rw [HS.out, HRN.out, show 5 - k = (4 - k) + 1 from by omega, run_no hlt (by rintro ⟨h, _⟩; omega)]
                have hnw : ¬ whole l a := fun h => by
                  have := h.2; rw [← HF.out, ← HN.out, hs] at this; omega
                show rU = _
                rw [HUP.out, uat_bad hp hnw, hs, show a + k = l.length from by omega]
              go_wp2_with fail
              go_ret2
              exact ⟨ret_place' (by rw [HW.out]) (by rw [HW.out]), Grew.of_drewN _ _⟩
          · have HW : Hid (rU = uat l (a + n)) := by
              have hs : stop l a = n := by
                rw [HS.out, HRN.out, run_end hlt]; omega
              have hw : whole l a := ⟨by rw [← HF.out, ← HN.out]; exact h0, by rw [hs, ← HF.out]; exact HN.out⟩
              show rU = _
              rw [HUP.out, uat_step hp hw, ← HF.out, ← HN.out]
            go_wp2_with fail
            go_roundw
            case rel => exact ⟨a + n, d', by go_num, rfl, by omega, HW.out⟩
            case measure => simp [intOf]; omega
    · go_wp2_with fail
      go_ret2
      have := HUP.out
      rw [uat_end (by omega)] at this
      exact ⟨ret_place' (by rw [this]) (by rw [this]), Grew.of_drewN _ _⟩

theorem refU_any (v : Value) (l : List Int) (w : World) (hR : Reads w v l) (hb : Byt l) (hlen : l.length ≤ 140737488351232) :
    Calls Try.prog 11 #[v] w fun e w' => e = .returned (.tuple #[.int .i64 (U l).1, .bool (U l).2]) ∧ Grew w w' := by
  obtain ⟨ad, cap, rfl, hlc, hm, _, h⟩ := hR
  rcases h with rfl | ⟨b, off, rfl, hc⟩
  · exact refU_none ad cap w
  · exact refU_in b off cap l w hlen hc hb
end Go.Proofs.Ytclamdpbdafmcaa
