/-
  Plain mathematics: numbers by their bits, shifts and rotations; nothing of the program.
-/
namespace Go.Proofs.YtolllelejdnjlaaDoor
set_option linter.unusedVariables false

/- A number by its bits. -/
def sb (f : Nat → Bool) : Nat → Nat
  | 0 => 0
  | n + 1 => sb f n + (if f n then 2 ^ n else 0)
theorem sb_lt (f : Nat → Bool) (n : Nat) : sb f n < 2 ^ n := by
  induction n with
  | zero => simp [sb]
  | succ n ih => rw [sb, Nat.pow_succ]; split <;> omega
theorem sb_bit (f : Nat → Bool) (n i : Nat) : (sb f n).testBit i = (decide (i < n) && f i) := by
  induction n with
  | zero => simp [sb]
  | succ n ih =>
    have hl := sb_lt f n
    have e : sb f (n + 1) = 2 ^ n * (if f n then 1 else 0) + sb f n := by rw [sb]; split <;> omega
    rw [e, Nat.testBit_two_pow_mul_add _ hl]
    by_cases h : i < n
    · rw [if_pos h, ih]; simp [h, Nat.lt_succ_of_lt h]
    · rw [if_neg h]
      by_cases h2 : i = n
      · subst h2; by_cases hf : f i <;> simp [hf]
      · have : ¬ i < n + 1 := by omega
        have h3 : i - n ≠ 0 := by omega
        have h4 : Nat.testBit 1 (i - n) = false := by rw [show (1 : Nat) = 2 ^ 0 from rfl, Nat.testBit_two_pow]; simp; omega
        by_cases hf : f n <;> simp [hf, this, h4]
theorem sb_of (f : Nat → Bool) (n x : Nat) (hx : x < 2 ^ n) (h : ∀ i, i < n → x.testBit i = f i) : sb f n = x := by
  apply Nat.eq_of_testBit_eq
  intro i
  rw [sb_bit]
  by_cases hi : i < n
  · simp [hi, h i hi]
  · rw [Nat.testBit_lt_two_pow (Nat.lt_of_lt_of_le hx (Nat.pow_le_pow_right (by decide) (Nat.le_of_not_lt hi)))]
    simp [hi]
theorem bit_out {a n i : Nat} (h : a < 2 ^ n) (hi : n ≤ i) : a.testBit i = false :=
  Nat.testBit_lt_two_pow (Nat.lt_of_lt_of_le h (Nat.pow_le_pow_right (by decide) hi))

/- Shifts and rotations by their bits. -/
theorem shl_bit (a c M i : Nat) : (a * 2 ^ c % 2 ^ M).testBit i = (decide (i < M) && (decide (c ≤ i) && a.testBit (i - c))) := by
  rw [Nat.testBit_mod_two_pow, Nat.mul_comm, Nat.testBit_two_pow_mul]
theorem shr_bit (a c i : Nat) : (a / 2 ^ c).testBit i = a.testBit (c + i) := by rw [Nat.testBit_div_two_pow, Nat.add_comm]

theorem shl_sb (N M a c : Nat) (hM : N ≤ M) : a * 2 ^ c % 2 ^ M % 2 ^ N = sb (fun i => decide (c ≤ i) && a.testBit (i - c)) N := by
  refine (sb_of _ _ _ (Nat.mod_lt _ (Nat.two_pow_pos N)) fun i hi => ?_).symm
  rw [Nat.testBit_mod_two_pow, shl_bit]
  simp [hi, show i < M from by omega]
theorem shr_sb (N a c : Nat) (ha : a < 2 ^ N) : a / 2 ^ c = sb (fun i => decide (i + c < N) && a.testBit (i + c)) N := by
  refine (sb_of _ _ _ (Nat.lt_of_le_of_lt (Nat.div_le_self _ _) ha) fun i hi => ?_).symm
  rw [shr_bit, Nat.add_comm c i]
  by_cases h : i + c < N
  · simp [h]
  · simp [h, bit_out ha (Nat.le_of_not_lt h)]
theorem rotl_sb (N M a c : Nat) (ha : a < 2 ^ N) (hc : c < N) (hM : N ≤ M) : (a * 2 ^ c % 2 ^ M ||| a / 2 ^ (N - c)) % 2 ^ N = sb (fun i => a.testBit ((i + N - c) % N)) N := by
  refine (sb_of _ _ _ (Nat.mod_lt _ (Nat.two_pow_pos N)) fun i hi => ?_).symm
  rw [Nat.testBit_mod_two_pow, Nat.testBit_or, shl_bit, shr_bit]
  by_cases h : c ≤ i
  · rw [bit_out ha (show N ≤ N - c + i from by omega)]
    rw [show i + N - c = (i - c) + N from by omega, Nat.add_mod_right, Nat.mod_eq_of_lt (show i - c < N from by omega)]
    simp [hi, h, show i < M from by omega]
  · rw [Nat.mod_eq_of_lt (show i + N - c < N from by omega), show N - c + i = i + N - c from by omega]
    simp [hi, h]
theorem rotr_sb (N M a c : Nat) (ha : a < 2 ^ N) (hc : c < N) (hM : N ≤ M) : (a / 2 ^ c ||| a * 2 ^ (N - c) % 2 ^ M) % 2 ^ N = sb (fun i => a.testBit ((i + c) % N)) N := by
  refine (sb_of _ _ _ (Nat.mod_lt _ (Nat.two_pow_pos N)) fun i hi => ?_).symm
  rw [Nat.testBit_mod_two_pow, Nat.testBit_or, shl_bit, shr_bit]
  by_cases h : i + c < N
  · rw [Nat.mod_eq_of_lt h]
    simp [hi, show ¬ N - c ≤ i from by omega, Nat.add_comm c i]
  · rw [bit_out ha (show N ≤ c + i from by omega)]
    rw [show i + c = (i + c - N) + N from by omega, Nat.add_mod_right, Nat.mod_eq_of_lt (show i + c - N < N from by omega)]
    simp [hi, show N - c ≤ i from by omega, show i < M from by omega, show i - (N - c) = i + c - N from by omega]
/- The signed shift: ones come in where the highest bit is set. -/
theorem sar_sb (N a c : Nat) (ha : a < 2 ^ N) (hc : c < N) :
    (if 2 ^ (N - 1) ≤ a then a / 2 ^ c + (2 ^ N - 2 ^ (N - c)) else a / 2 ^ c) = sb (fun i => a.testBit (if N ≤ i + c then N - 1 else i + c)) N := by
  have hN : 0 < N := by omega
  have top : a.testBit (N - 1) = decide (2 ^ (N - 1) ≤ a) := by
    by_cases h : 2 ^ (N - 1) ≤ a
    · rw [decide_eq_true h, Nat.testBit_eq_decide_div_mod_eq]
      have h2 : a / 2 ^ (N - 1) = 1 := by
        apply Nat.div_eq_of_lt_le
        · omega
        · rw [show (1 + 1) * 2 ^ (N - 1) = 2 ^ N from by rw [Nat.mul_comm, ← Nat.pow_succ]; congr 1; omega]; exact ha
      simp [h2]
    · rw [decide_eq_false h, Nat.testBit_lt_two_pow (Nat.lt_of_not_le h)]
  have hp : 2 ^ N = 2 ^ c * 2 ^ (N - c) := by rw [← Nat.pow_add]; congr 1; omega
  have hq : a / 2 ^ c < 2 ^ (N - c) := by rw [Nat.div_lt_iff_lt_mul (Nat.two_pow_pos c), Nat.mul_comm, ← hp]; exact ha
  have hle : 2 ^ (N - c) ≤ 2 ^ N := Nat.pow_le_pow_right (by decide) (by omega)
  by_cases h : 2 ^ (N - 1) ≤ a
  · rw [if_pos h]
    have e : a / 2 ^ c + (2 ^ N - 2 ^ (N - c)) = 2 ^ (N - c) * (2 ^ c - 1) + a / 2 ^ c := by
      rw [Nat.mul_sub, Nat.mul_one, Nat.mul_comm (2 ^ (N - c)), ← hp]; omega
    refine (sb_of _ _ _ (by omega) fun i hi => ?_).symm
    rw [e, Nat.testBit_two_pow_mul_add _ hq, Nat.testBit_two_pow_sub_one]
    by_cases hi2 : i < N - c
    · rw [if_pos hi2, if_neg (by omega), shr_bit, Nat.add_comm]
    · rw [if_neg hi2, if_pos (by omega), top, decide_eq_true h]
      simp; omega
  · rw [if_neg h]
    refine (sb_of _ _ _ (by omega) fun i hi => ?_).symm
    rw [shr_bit]
    by_cases hi2 : N ≤ i + c
    · rw [if_pos hi2, top, decide_eq_false h, bit_out ha (by omega)]
    · rw [if_neg hi2, Nat.add_comm]
/- A number's bit, as the programs ask for it. -/
theorem bit_div (a i : Nat) : (a / 2 ^ i % 2 = 1) = (a.testBit i = true) := by
  rw [Nat.testBit_eq_decide_div_mod_eq]; simp
/- There and back. -/
theorem rot_back (N M a c : Nat) (ha : a < 2 ^ N) (hc : c < N) (hM : N ≤ M) :
    sb (fun i => (sb (fun i => a.testBit ((i + N - c) % N)) N).testBit ((i + c) % N)) N = a := by
  refine sb_of _ _ _ ha fun i hi => ?_
  rw [sb_bit]
  have h1 : (i + c) % N < N := Nat.mod_lt _ (by omega)
  by_cases h : i + c < N
  · rw [Nat.mod_eq_of_lt h]
    rw [show i + c + N - c = i + N from by omega, Nat.add_mod_right, Nat.mod_eq_of_lt hi]
    simp [h]
  · rw [show i + c = (i + c - N) + N from by omega, Nat.add_mod_right, Nat.mod_eq_of_lt (show i + c - N < N from by omega)]
    rw [show i + c - N + N - c = i from by omega, Nat.mod_eq_of_lt hi]
    simp [show i + c - N < N from by omega]
end Go.Proofs.YtolllelejdnjlaaDoor
