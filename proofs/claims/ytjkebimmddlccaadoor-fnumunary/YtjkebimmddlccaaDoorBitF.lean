/-
  Plain facts on the bits of words; no statement is proved here.
-/
import Derived.Test.YtjkebimmddlccaaDoorOpM
import Derived.Laws.Bits64b
import Derived.Laws.BitsAllLaws
namespace Go.Proofs.YtjkebimmddlccaaDoor
set_option linter.unusedVariables false
set_option linter.unusedSimpArgs false

theorem and_mask (a k : Nat) (hk : k ≤ 64) (ha : a < 18446744073709551616) : bits .and .u64 (a : Int) ((2 ^ k - 1 : Nat) : Int) = ((a % 2 ^ k : Nat) : Int) := by
  have : 2 ^ k ≤ 2 ^ 64 := Nat.pow_le_pow_right (by decide) hk
  have h0 := Nat.two_pow_pos k
  rw [bits_and_u64_nat a _ ha (by have e : (2 : Nat) ^ 64 = 18446744073709551616 := by decide
                                  omega), Nat.and_two_pow_sub_one_eq_mod]
theorem and_31 (a : Nat) (ha : a < 18446744073709551616) : bits .and .u64 (a : Int) 2147483647 = ((a % 2147483648 : Nat) : Int) := and_mask a 31 (by decide) ha
theorem and_32 (a : Nat) (ha : a < 18446744073709551616) : bits .and .u64 (a : Int) 4294967295 = ((a % 4294967296 : Nat) : Int) := and_mask a 32 (by decide) ha
theorem and_63 (a : Nat) (ha : a < 18446744073709551616) : bits .and .u64 (a : Int) 9223372036854775807 = ((a % 9223372036854775808 : Nat) : Int) := and_mask a 63 (by decide) ha
theorem and_23 (a : Nat) (ha : a < 18446744073709551616) : bits .and .u64 (a : Int) 8388607 = ((a % 8388608 : Nat) : Int) := and_mask a 23 (by decide) ha
theorem and_52 (a : Nat) (ha : a < 18446744073709551616) : bits .and .u64 (a : Int) 4503599627370495 = ((a % 4503599627370496 : Nat) : Int) := and_mask a 52 (by decide) ha
theorem and_1 (a : Nat) (ha : a < 18446744073709551616) : bits .and .u64 (a : Int) 1 = ((a % 2 : Nat) : Int) := and_mask a 1 (by decide) ha
theorem and_pow (a k : Nat) : a &&& 2 ^ k = a / 2 ^ k % 2 * 2 ^ k := by
  have hb : a.testBit k = decide (a / 2 ^ k % 2 = 1) := Nat.testBit_eq_decide_div_mod_eq
  apply Nat.eq_of_testBit_eq
  intro i
  rw [Nat.testBit_and, Nat.testBit_two_pow]
  have : a / 2 ^ k % 2 = 0 ∨ a / 2 ^ k % 2 = 1 := by generalize a / 2 ^ k = q; omega
  by_cases hk : k = i
  · subst hk
    rcases this with h | h <;> simp [hb, h]
  · rcases this with h | h
    · simp [hk, h]
    · rw [h, Nat.one_mul, Nat.testBit_two_pow]; simp [hk]
theorem sgn_31 (a : Nat) (ha : a < 18446744073709551616) : bits .and .u64 (a : Int) 2147483648 = ((a / 2147483648 % 2 * 2147483648 : Nat) : Int) := by
  rw [show (2147483648 : Int) = ((2147483648 : Nat) : Int) from rfl, bits_and_u64_nat a _ ha (by decide)]; exact congrArg _ (and_pow a 31)
theorem sgn_63 (a : Nat) (ha : a < 18446744073709551616) : bits .and .u64 (a : Int) 9223372036854775808 = ((a / 9223372036854775808 % 2 * 9223372036854775808 : Nat) : Int) := by
  rw [show (9223372036854775808 : Int) = ((9223372036854775808 : Nat) : Int) from rfl, bits_and_u64_nat a _ ha (by decide)]; exact congrArg _ (and_pow a 63)
theorem not_63 (a : Nat) (ha : a < 18446744073709551616) : bits .andNot .u64 (a : Int) 9223372036854775808 = ((a % 9223372036854775808 : Nat) : Int) := by
  rw [show (9223372036854775808 : Int) = ((9223372036854775808 : Nat) : Int) from rfl, u64_andNot_nat a _ ha (by decide)]
  exact congrArg _ (Nat.and_two_pow_sub_one_eq_mod a 63)
theorem not_31 (a : Nat) (ha : a < 4294967296) : bits .andNot .u64 (a : Int) 2147483648 = ((a % 2147483648 : Nat) : Int) := by
  rw [show (2147483648 : Int) = ((2147483648 : Nat) : Int) from rfl, u64_andNot_nat a _ (by omega) (by decide)]
  have e1 : a = a &&& (2 ^ 32 - 1) := by rw [Nat.and_two_pow_sub_one_eq_mod]; exact (Nat.mod_eq_of_lt ha).symm
  have e2 : (2 ^ 32 - 1) &&& (18446744073709551615 - 2147483648) = 2 ^ 31 - 1 := by decide
  conv => lhs; rw [e1, Nat.and_assoc, e2, Nat.and_two_pow_sub_one_eq_mod]
theorem xor_pow (a k : Nat) (ha : a < 2 ^ (k + 1)) : a ^^^ 2 ^ k = if a / 2 ^ k % 2 = 1 then a - 2 ^ k else a + 2 ^ k := by
  have hp := Nat.two_pow_pos k
  have e2 : 2 ^ (k + 1) = 2 ^ k * 2 := Nat.pow_succ ..
  have lt1 : a % 2 ^ k < 2 ^ k := Nat.mod_lt _ hp
  have dm := Nat.div_add_mod a (2 ^ k)
  have hq : a / 2 ^ k < 2 := Nat.div_lt_of_lt_mul (by omega)
  have bit : ∀ i, a.testBit i = if i < k then (a % 2 ^ k).testBit i else (decide (i = k) && decide (a / 2 ^ k % 2 = 1)) := fun i => by
    split
    · rw [Nat.testBit_mod_two_pow]; simp [*]
    · rename_i h
      by_cases hi : i = k
      · subst hi; rw [Nat.testBit_eq_decide_div_mod_eq]; simp
      · rw [Nat.testBit_lt_two_pow (Nat.lt_of_lt_of_le ha (Nat.pow_le_pow_right (by decide) (by omega)))]; simp [hi]
  have bit2 : ∀ (c r i : Nat), r < 2 ^ k → c < 2 → (2 ^ k * c + r).testBit i = if i < k then r.testBit i else (decide (i = k) && decide (c = 1)) := fun c r i hr hc => by
    rw [Nat.testBit_two_pow_mul_add _ hr]
    split
    · rfl
    · rename_i h
      by_cases hi : i = k
      · subst hi; have : c = 0 ∨ c = 1 := by omega
        rcases this with rfl | rfl <;> simp
      · rw [Nat.testBit_lt_two_pow (Nat.lt_of_lt_of_le hc (by have : 2 ^ 1 ≤ 2 ^ (i - k) := Nat.pow_le_pow_right (by decide) (by omega)
                                                              simpa using this))]; simp [hi]
  by_cases h : a / 2 ^ k % 2 = 1
  · rw [if_pos h]
    have h1 : a / 2 ^ k = 1 := by generalize a / 2 ^ k = q at *; omega
    rw [h1] at dm
    have e : a - 2 ^ k = 2 ^ k * 0 + a % 2 ^ k := by omega
    rw [e]
    apply Nat.eq_of_testBit_eq
    intro i
    rw [bit2 0 _ i lt1 (by decide), Nat.testBit_xor, bit i, Nat.testBit_two_pow]
    by_cases hi : i < k
    · have : ¬ k = i := by omega
      simp [hi, this]
    · by_cases hk : i = k
      · subst hk; simp [h]
      · have : ¬ k = i := by omega
        simp [hi, hk, this]
  · rw [if_neg h]
    have h1 : a / 2 ^ k = 0 := by generalize a / 2 ^ k = q at *; omega
    rw [h1] at dm
    have e : a + 2 ^ k = 2 ^ k * 1 + a % 2 ^ k := by omega
    rw [e]
    apply Nat.eq_of_testBit_eq
    intro i
    rw [bit2 1 _ i lt1 (by decide), Nat.testBit_xor, bit i, Nat.testBit_two_pow]
    by_cases hi : i < k
    · have : ¬ k = i := by omega
      simp [hi, this]
    · by_cases hk : i = k
      · subst hk; simp [h]
      · have : ¬ k = i := by omega
        simp [hi, hk, this]
/- The word with its sign turned. -/
def tg (f : Ieee.Format) (a : Nat) : Nat := if ng f a then a - f.signWeight else a + f.signWeight
theorem xor_31 (a : Nat) (ha : a < 4294967296) : bits .xor .u64 (a : Int) 2147483648 = ((tg Ieee.single a : Nat) : Int) := by
  rw [show (2147483648 : Int) = ((2147483648 : Nat) : Int) from rfl, bits_xor_u64_nat a _ (by omega) (by decide)]
  have := xor_pow a 31 ha
  unfold tg ng
  rw [show Ieee.single.signWeight = 2147483648 from by decide]
  refine congrArg _ (this.trans ?_)
  simp
theorem xor_63 (a : Nat) (ha : a < 18446744073709551616) : bits .xor .u64 (a : Int) 9223372036854775808 = ((tg Ieee.double a : Nat) : Int) := by
  rw [show (9223372036854775808 : Int) = ((9223372036854775808 : Nat) : Int) from rfl, bits_xor_u64_nat a _ (by omega) (by decide)]
  have := xor_pow a 63 ha
  unfold tg ng
  rw [show Ieee.double.signWeight = 9223372036854775808 from by decide]
  refine congrArg _ (this.trans ?_)
  simp
theorem tg_lt {f : Ieee.Format} {a : Nat} (ha : a < 2 * f.signWeight) : tg f a < 2 * f.signWeight ∧ sz f (tg f a) = sz f a ∧ ng f (tg f a) = !ng f a := by
  have hp := sw_pos f
  unfold tg ng sz
  have dm := Nat.div_add_mod a f.signWeight
  have ml := Nat.mod_lt a hp
  have hq : a / f.signWeight < 2 := Nat.div_lt_of_lt_mul (by omega)
  generalize f.signWeight = S at *
  by_cases h : a / S = 1
  · rw [h] at dm
    have : (a / S % 2 == 1) = true := by rw [h]; rfl
    rw [if_pos this]
    have e : a - S = a % S := by omega
    rw [e, Nat.mod_eq_of_lt ml, Nat.div_eq_of_lt ml, this]
    exact ⟨by omega, rfl, rfl⟩
  · have h0 : a / S = 0 := by generalize a / S = q at *; omega
    rw [h0] at dm
    have : (a / S % 2 == 1) = false := by rw [h0]; rfl
    rw [this]
    have e : a = a % S := by omega
    rw [if_neg (by simp), Nat.add_mod_right, Nat.add_div_right _ hp, h0]
    exact ⟨by omega, rfl, rfl⟩
/- Below 0, told by the sign's bit. -/
theorem ng_ne (f : Ieee.Format) (a : Nat) : ((a / f.signWeight % 2 * f.signWeight : Nat) : Int) = if ng f a then (f.signWeight : Int) else 0 := by
  unfold ng
  have : a / f.signWeight % 2 = 0 ∨ a / f.signWeight % 2 = 1 := by omega
  rcases this with h | h <;> simp [h]
end Go.Proofs.YtjkebimmddlccaaDoor
