/-
  Plain mathematics: leading and trailing noughts; nothing of the program.
-/
import Derived.Test.YtolllelejdnjlaaDoorPopM
import Derived.Lib.BitFns
import Derived.Lib.TrailingZeros
namespace Go.Proofs.YtolllelejdnjlaaDoor
set_option linter.unusedVariables false

theorem bl_spec : ∀ x : Nat, x < 2 ^ 64 → x < 2 ^ Lib.bitLen x ∧ (x ≠ 0 → 0 < Lib.bitLen x ∧ 2 ^ (Lib.bitLen x - 1) ≤ x) := by
  intro x
  induction x using Nat.strongRecOn with
  | _ x ih =>
    intro hx
    by_cases h0 : x = 0
    · subst h0; exact ⟨Nat.two_pow_pos _, fun h => absurd rfl h⟩
    · have e := Lib.bitLen_half x h0 hx
      obtain ⟨i1, i2⟩ := ih (x / 2) (by omega) (by omega)
      rw [e, Nat.add_comm]
      refine ⟨by rw [Nat.pow_succ]; omega, fun _ => ⟨by omega, ?_⟩⟩
      rw [Nat.add_sub_cancel]
      by_cases h1 : x / 2 = 0
      · have : x = 1 := by omega
        subst this
        decide
      · obtain ⟨j1, j2⟩ := i2 h1
        have : 2 ^ Lib.bitLen (x / 2) = 2 ^ (Lib.bitLen (x / 2) - 1) * 2 := by rw [← Nat.pow_succ]; congr 1; omega
        omega
theorem bit_top {a n : Nat} (hn : 0 < n) (h1 : 2 ^ (n - 1) ≤ a) (h2 : a < 2 ^ n) : a.testBit (n - 1) = true := by
  rw [Nat.testBit_eq_decide_div_mod_eq]
  have h3 : a / 2 ^ (n - 1) = 1 := by
    apply Nat.div_eq_of_lt_le
    · omega
    · rw [show (1 + 1) * 2 ^ (n - 1) = 2 ^ n from by rw [Nat.mul_comm, ← Nat.pow_succ]; congr 1; omega]; exact h2
  simp [h3]
/- Leading noughts of so many bits. -/
theorem clz_no (N a k : Nat) (hN : N ≤ 64) (ha : a < 2 ^ N) (h : k < N - Lib.bitLen a) : a.testBit (N - 1 - k) = false := by
  have h64 : a < 2 ^ 64 := Nat.lt_of_lt_of_le ha (Nat.pow_le_pow_right (by decide) hN)
  exact bit_out (bl_spec a h64).1 (by omega)
theorem clz_yes (N a : Nat) (hN : N ≤ 64) (ha : a < 2 ^ N) (h : N - Lib.bitLen a < N) : a.testBit (N - 1 - (N - Lib.bitLen a)) = true := by
  have h64 : a < 2 ^ 64 := Nat.lt_of_lt_of_le ha (Nat.pow_le_pow_right (by decide) hN)
  have hle := Lib.bitLen_le a N hN ha
  have h0 : a ≠ 0 := by intro h0; subst h0; have : Lib.bitLen 0 = 0 := by decide
                        omega
  obtain ⟨s1, s2⟩ := bl_spec a h64
  obtain ⟨s3, s4⟩ := s2 h0
  rw [show N - 1 - (N - Lib.bitLen a) = Lib.bitLen a - 1 from by omega]
  exact bit_top s3 s4 s1
/- Trailing noughts. -/
def tz (N a : Nat) : Nat := min (Lib.ctz 64 a) N
theorem ctz_spec (a : Nat) (h0 : a ≠ 0) (h : a < 2 ^ 64) : (∀ i, i < Lib.ctz 64 a → a.testBit i = false) ∧ a.testBit (Lib.ctz 64 a) = true ∧ 2 ^ Lib.ctz 64 a ≤ a := by
  have e : Lib.ctz 64 a = Lib.ctzFrom 64 a := by unfold Lib.ctz; rw [if_neg h0]
  obtain ⟨m, hm, _⟩ := Lib.ctzFrom_spec 64 a (by omega) h
  rw [e]
  generalize Lib.ctzFrom 64 a = c at *
  have hb : ∀ i, a.testBit i = (decide (c ≤ i) && (2 * m + 1).testBit (i - c)) := by intro i; rw [hm, Nat.testBit_two_pow_mul]
  refine ⟨fun i hi => ?_, ?_, ?_⟩
  · rw [hb]; simp; omega
  · rw [hb]; simp
  · rw [hm]; exact Nat.le_mul_of_pos_right _ (by omega)
theorem tz_no (N a k : Nat) (hN : N ≤ 64) (ha : a < 2 ^ N) (h : k < tz N a) : a.testBit k = false := by
  by_cases h0 : a = 0
  · subst h0; simp
  · have h64 : a < 2 ^ 64 := Nat.lt_of_lt_of_le ha (Nat.pow_le_pow_right (by decide) hN)
    exact (ctz_spec a h0 h64).1 k (by unfold tz at h; omega)
theorem tz_yes (N a : Nat) (hN : N ≤ 64) (ha : a < 2 ^ N) (h : tz N a < N) : a.testBit (tz N a) = true := by
  have h0 : a ≠ 0 := by
    intro h0; subst h0
    have : Lib.ctz 64 0 = 64 := by decide
    unfold tz at h; omega
  have h64 : a < 2 ^ 64 := Nat.lt_of_lt_of_le ha (Nat.pow_le_pow_right (by decide) hN)
  have : tz N a = Lib.ctz 64 a := by unfold tz at *; omega
  rw [this]
  exact (ctz_spec a h0 h64).2.1
end Go.Proofs.YtolllelejdnjlaaDoor
