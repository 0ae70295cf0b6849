/-
  The walks of kindOf and first; no statement is proved here.
-/
import Derived.Test.YtmcljnohdknpoaaDoorWorld
import Derived.Test.YtmcljnohdknpoaaDoorTokM
import Derived.WalkSpells
namespace Go.Proofs.YtmcljnohdknpoaaDoor
open Go.RowKit
set_option linter.unusedVariables false

def kd (c : Nat) : Int := if bl c then 0 else if br c then 1 else 2
theorem kindOf_any (c : Nat) (w : World) :
    Calls Tryd.prog 58 #[.int .u8 (c : Int)] w fun e w' => e = .returned (.int .i64 (kd c)) ∧ w' = w := by
  have e1 : ((c : Int) == 32) = (c == 32) := by rw [Bool.eq_iff_iff]; simp; omega
  have e2 : ((c : Int) == 9) = (c == 9) := by rw [Bool.eq_iff_iff]; simp; omega
  have e3 : ((c : Int) == 10) = (c == 10) := by rw [Bool.eq_iff_iff]; simp; omega
  have e4 : ((c : Int) == 40) = (c == 40) := by rw [Bool.eq_iff_iff]; simp; omega
  have e5 : ((c : Int) == 41) = (c == 41) := by rw [Bool.eq_iff_iff]; simp; omega
  unfold kd bl br
  rw [← e1, ← e2, ← e3, ← e4, ← e5]
  clear e1 e2 e3 e4 e5
  generalize (c : Int) = x
  obtain ⟨r, hr⟩ : ∃ r, r = (if (x == 32 || x == 9 || x == 10) = true then 0 else if (x == 40 || x == 41) = true then 1 else 2 : Int) := ⟨_, rfl⟩
  rw [← hr]
  have HR : Hid (r = (if (x == 32 || x == 9 || x == 10) = true then 0 else if (x == 40 || x == 41) = true then 1 else 2 : Int)) := hr
  clear hr
  go_enter Tryd.func58, Tryd.ntmps58
  go_wp2
  all_goals (go_ret; refine ⟨?_, rfl⟩; rw [HR.out]; simp_all)

/- How long the word or bracket is with which a text begins. -/
def fst (u : ByteArray) : Nat := if ltr u 0 = 0 ∧ u.size ≠ 0 then 1 else ltr u 0
theorem fst_tk {s : ByteArray} {p : Nat} (h : At s p) : (s.extract p s.size).extract 0 (fst (s.extract p s.size)) = tk s p := by
  have hz : (s.extract p s.size).size = s.size - p := by rw [ByteArray.size_extract]; omega
  have hl := ltr_extract s p 0 h.1 (by have := h.1; omega)
  have hle := ltr_size s p h.1
  have hll := ltr_le s p
  simp only [Nat.add_zero] at hl
  unfold tk
  have he : p + fst (s.extract p s.size) = tend s p := by
    obtain ⟨u, hu⟩ : ∃ u, u = s.extract p s.size := ⟨_, rfl⟩
    rw [← hu] at hz hl ⊢
    by_cases hp : p < s.size
    · by_cases hb : br (bt s p) = true
      · have h1 : tend s p = p + 1 := by unfold tend; rw [if_pos ⟨hp, hb⟩]
        have h2 : ltr s p = p := ltr_off (fun hh => by rw [hb] at hh; exact absurd hh.2.2 (by decide))
        have h3 : fst u = 1 := by unfold fst; rw [if_pos ⟨by omega, by omega⟩]
        omega
      · have h1 : p < tend s p := h.tend_lt hp
        have h2 : tend s p = ltr s p := by unfold tend; rw [if_neg (fun hh => hb hh.2)]
        have h3 : fst u = ltr u 0 := by unfold fst; rw [if_neg (fun hh => by have := hh.1; omega)]
        omega
    · have h2 : tend s p = ltr s p := by unfold tend; rw [if_neg (fun hh => hp hh.1)]
      have h3 : fst u = ltr u 0 := by unfold fst; rw [if_neg (fun hh => by have := hh.2; omega)]
      omega
  have hle' := tend_size s p h.1
  rw [← he, extract_extract s p _ (by omega)]
theorem toList_empty (u : ByteArray) : u.toList.isEmpty = decide (u.size = 0) := by
  rw [Bool.eq_iff_iff, List.isEmpty_iff, decide_eq_true_iff, ByteArray.toList_eq]
  rw [show u.size = u.data.toList.length from Array.length_toList.symm]
  exact List.length_eq_zero_iff.symm
set_option maxRecDepth 100000 in
theorem first_any (u : ByteArray) (w : World) (hu : u.size ≤ 140737488355328) :
    Calls Tryd.prog 59 #[.string u] w fun e w' => e = .returned (.string (u.extract 0 (fst u))) ∧ w' = w := by
  have he := toList_empty u
  go_enter Tryd.func59, Tryd.ntmps59
  go_wp2
  go_loop [3] (fun n => ∃ k : Nat, n = .int .i64 k ∧ k ≤ u.size ∧ Hid (ltr u k = ltr u 0)) (fun n => u.size - (intOf n).toNat)
  case atStart => exact ⟨0, rfl, Nat.zero_le _, rfl⟩
  case round =>
    obtain ⟨k, rfl, hk, HL⟩ := hrel
    have fin : ∀ (hs : ¬ (k < u.size ∧ bl (bt u k) = false ∧ br (bt u k) = false)), k = ltr u 0 := fun hs => by rw [← HL.out, ltr_off hs]
    by_cases hlt : k < u.size
    · have hb := bt_get hlt
      have C : Hid (∀ w : World, Calls Tryd.prog 58 #[.int .u8 ((u[k].toNat : Nat) : Int)] w fun e w' => e = .returned (.int .i64 (kd (bt u k))) ∧ w' = w) := by
        intro w
        rw [hb]
        exact kindOf_any _ w
      have hd : decide ((k : Int) < (u.size : Int)) = true := by simpa using hlt
      obtain ⟨q, hq⟩ : ∃ q, q = kd (bt u k) := ⟨_, rfl⟩
      rw [← hq] at C
      by_cases hc : bl (bt u k) = false ∧ br (bt u k) = false
      · have : q = 2 := by rw [hq]; unfold kd; simp [hc.1, hc.2]
        subst this
        clear hb hq
        go_wp2_with (go_at_call 58; refine (C.out _).mono ?_; rintro e w' ⟨rfl, rfl⟩)
        go_round
        case rel => exact ⟨k + 1, by go_num, by omega, (show ltr u (k + 1) = ltr u 0 by rw [← HL.out, ltr_on hlt hc.1 hc.2])⟩
        case measure => simp [intOf]; omega
      · have h2 : (q == 2) = false := by
          rw [hq]; unfold kd
          cases h1 : bl (bt u k) <;> cases h2 : br (bt u k) <;> simp_all
        have hk0 := fin (fun h => hc h.2)
        clear fin hb hq
        by_cases h0 : k = 0
        · have hz : decide (u.size = 0) = false := decide_eq_false (by omega)
          have hf : fst u = 1 := by unfold fst; rw [if_pos ⟨by rw [← hk0, h0], by omega⟩]
          have HF : Hid (fst u = _) := hf
          rw [hz] at he
          subst h0
          clear hk0 hf
          go_wp2_with (go_at_call 58; refine (C.out _).mono ?_; rintro e w' ⟨rfl, rfl⟩)
          go_ret
          exact ⟨by rw [HF.out]; simp, rfl⟩
        · have hf : fst u = k := by unfold fst; rw [if_neg (fun h => by have := h.1; omega)]; exact hk0.symm
          have HF : Hid (fst u = _) := hf
          have h00 : ((k : Int) == 0) = false := by simp; omega
          clear hk0 hf
          go_wp2_with (go_at_call 58; refine (C.out _).mono ?_; rintro e w' ⟨rfl, rfl⟩)
          go_ret
          exact ⟨by rw [HF.out]; simp, rfl⟩
    · have hd : decide ((k : Int) < (u.size : Int)) = false := by simp; omega
      have hk0 := fin (fun h => hlt h.1)
      have hks : k = u.size := by omega
      clear fin
      by_cases h0 : u.size = 0
      · have hf : fst u = 0 := by unfold fst; rw [if_neg (fun h => h.2 h0), ← hk0, hks, h0]
        have HF : Hid (fst u = 0) := hf
        have hk00 : k = 0 := by omega
        subst hk00
        clear hk0 hf HL hks hlt hk
        go_wp2
        all_goals (go_ret; exact ⟨by rw [HF.out]; simp, rfl⟩)
      · have hf : fst u = u.size := by unfold fst; rw [if_neg (fun h => by have := h.1; omega)]; omega
        have HF : Hid (fst u = u.size) := hf
        subst hks
        have h00 : ((u.size : Int) == 0) = false := by simp only [beq_eq_false_iff_ne]; omega
        clear hk0 hf HL
        go_wp2
        go_ret
        exact ⟨by rw [HF.out]; simp, rfl⟩
end Go.Proofs.YtmcljnohdknpoaaDoor
