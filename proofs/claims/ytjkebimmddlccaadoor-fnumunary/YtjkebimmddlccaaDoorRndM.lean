/-
  Plain facts on rounding to the nearest float, ties to even; no statement is proved here.
-/
import Ieee.Arith
namespace Go.Proofs.YtjkebimmddlccaaDoor
set_option linter.unusedVariables false
set_option linter.unusedSimpArgs false

/- The step up of n / 2^d, 'more': something was cut off below n. -/
def upR (n d : Nat) (more : Bool) : Nat := if d = 0 then 0 else if (n / 2 ^ (d - 1)) % 2 = 1 ∧ (more = true ∨ n % 2 ^ (d - 1) ≠ 0 ∨ (n / 2 ^ d) % 2 = 1) then 1 else 0
def rne (n d : Nat) (more : Bool) : Nat := n / 2 ^ d + upR n d more
def lastR (f : Ieee.Format) (W : Nat) (e : Int) : Int := max (e + W.log2 - f.fractionBits) f.leastPlace
def rungR (f : Ieee.Format) (W : Nat) (more : Bool) (e : Int) : Nat := (lastR f W e - f.leastPlace).toNat * f.binade + rne (W <<< (e - lastR f W e).toNat) (lastR f W e - e).toNat more
/- The word nearest to W (and a little, where more) times 2^e. -/
def rd (f : Ieee.Format) (neg : Bool) (W : Nat) (more : Bool) (e : Int) : Nat := if W = 0 then f.word neg 0 else f.word neg (min (rungR f W more e) f.infRung)

theorem lt_log2 (n : Nat) : n < 2 ^ (n.log2 + 1) := Nat.lt_log2_self
theorem log2_le {n : Nat} (h : n ≠ 0) : 2 ^ n.log2 ≤ n := Nat.log2_self_le h
theorem log2_of {n k : Nat} (h : 2 ^ k ≤ n) (h2 : n < 2 ^ (k + 1)) : n.log2 = k := by
  have hp : 0 < 2 ^ k := Nat.two_pow_pos k
  have a : n.log2 < k + 1 := (Nat.log2_lt (by omega)).2 h2
  have b : k ≤ n.log2 := (Nat.le_log2 (by omega)).2 h
  omega
theorem cut_even (neg : Bool) (n d : Nat) : Ieee.Toward.even.cut neg n d = rne n d false := by
  unfold Ieee.Toward.cut rne upR
  simp only [Nat.one_shiftLeft]
  by_cases h : d ≤ n.log2 + 2
  · rw [Nat.min_eq_left h]
    cases d with
    | zero => simp [Nat.mod_one]
    | succ d =>
      have e2 : 2 ^ (d + 1) = 2 * 2 ^ d := by rw [Nat.pow_succ, Nat.mul_comm]
      have g : 0 < 2 ^ d := Nat.two_pow_pos d
      have m : n % (2 ^ d * 2) = n % 2 ^ d + 2 ^ d * (n / 2 ^ d % 2) := Nat.mod_mul
      rw [Nat.mul_comm, ← e2] at m
      have lt : n % 2 ^ d < 2 ^ d := Nat.mod_lt _ g
      have b2 : n / 2 ^ d % 2 = 0 ∨ n / 2 ^ d % 2 = 1 := by omega
      simp only [Nat.add_sub_cancel, show d + 1 ≠ 0 from by omega, if_false]
      congr 1
      rcases b2 with b | b
      · rw [b] at m
        have hs : ¬ (2 ^ (d + 1) < 2 * (n % 2 ^ (d + 1))) := by omega
        have ht : ¬ (2 ^ (d + 1) = 2 * (n % 2 ^ (d + 1))) := by omega
        simp [hs, ht, b]
      · rw [b] at m
        by_cases z : n % 2 ^ d = 0
        · have hs : ¬ (2 ^ (d + 1) < 2 * (n % 2 ^ (d + 1))) := by omega
          have ht : (2 ^ (d + 1) = 2 * (n % 2 ^ (d + 1))) := by omega
          simp only [hs, ← ht, b, z]
          by_cases o : n / 2 ^ (d + 1) % 2 = 1 <;> simp [o]
        · have hs : (2 ^ (d + 1) < 2 * (n % 2 ^ (d + 1))) := by omega
          simp [hs, b, z]
  · rw [Nat.min_eq_right (by omega)]
    have l := lt_log2 n
    have p1 : 2 ^ (n.log2 + 2) = 2 * 2 ^ (n.log2 + 1) := by rw [Nat.pow_succ, Nat.mul_comm]
    have le1 : 2 ^ (n.log2 + 1) ≤ 2 ^ (d - 1) := Nat.pow_le_pow_right (by omega) (by omega)
    have le2 : 2 ^ (d - 1) ≤ 2 ^ d := Nat.pow_le_pow_right (by omega) (by omega)
    have d1 : n / 2 ^ (d - 1) = 0 := Nat.div_eq_of_lt (by omega)
    have d2 : n / 2 ^ d = 0 := Nat.div_eq_of_lt (by omega)
    have d3 : n / 2 ^ (n.log2 + 2) = 0 := Nat.div_eq_of_lt (by omega)
    have d4 : n % 2 ^ (n.log2 + 2) = n := Nat.mod_eq_of_lt (by omega)
    have hs : ¬ (2 ^ (n.log2 + 2) < 2 * n) := by omega
    have ht : ¬ (2 ^ (n.log2 + 2) = 2 * n) := by omega
    simp [d1, d2, d3, d4, hs, ht]
/- What the model's rounding gives. -/
theorem nearest_rd (f : Ieee.Format) (neg : Bool) (N : Nat) (p : Int) : f.nearest neg N p = rd f neg N false p := by
  unfold Ieee.Format.nearest rd rungR lastR
  simp only [cut_even]
theorem pow_split {d k : Nat} : 2 ^ (d + k) = 2 ^ k * 2 ^ d := by rw [Nat.pow_add, Nat.mul_comm]
/- Digits below are cut off ahead of rounding: only whether something was there counts. -/
theorem rne_shift (n d k : Nat) (more : Bool) (hd : 1 ≤ d) : rne n (d + k) more = rne (n / 2 ^ k) d (more || decide (n % 2 ^ k ≠ 0)) := by
  unfold rne upR
  have e1 : n / 2 ^ (d + k) = n / 2 ^ k / 2 ^ d := by rw [pow_split, Nat.div_div_eq_div_mul]
  have e2 : n / 2 ^ (d + k - 1) = n / 2 ^ k / 2 ^ (d - 1) := by rw [show d + k - 1 = (d - 1) + k from by omega, pow_split, Nat.div_div_eq_div_mul]
  have e3 : n % 2 ^ (d + k - 1) = n % 2 ^ k + 2 ^ k * (n / 2 ^ k % 2 ^ (d - 1)) := by rw [show d + k - 1 = (d - 1) + k from by omega, pow_split, Nat.mod_mul]
  have g : 0 < 2 ^ k := Nat.two_pow_pos k
  rw [e1, e2, if_neg (show ¬ (d + k = 0) from by omega), if_neg (show ¬ (d = 0) from by omega)]
  congr 1
  have iff3 : n % 2 ^ (d + k - 1) ≠ 0 ↔ (n % 2 ^ k ≠ 0 ∨ n / 2 ^ k % 2 ^ (d - 1) ≠ 0) := by
    rw [e3]
    constructor
    · intro h
      by_cases z : n % 2 ^ k = 0
      · right; intro z2; rw [z, z2] at h; simp at h
      · exact Or.inl z
    · rintro (h | h)
      · omega
      · intro z
        have : 2 ^ k * (n / 2 ^ k % 2 ^ (d - 1)) = 0 := by omega
        rcases Nat.mul_eq_zero.1 this with h1 | h1
        · omega
        · exact h h1
  simp only [iff3, Bool.or_eq_true, decide_eq_true_eq, or_assoc]
theorem rne_zero (n : Nat) (more : Bool) : rne n 0 more = n := by simp [rne, upR]
theorem rne_exact (n a b : Nat) (more : Bool) (hm : more = false) : rne (n * 2 ^ (a + b)) b more = n * 2 ^ a := by
  subst hm
  unfold rne upR
  have e0 : n * 2 ^ (a + b) = n * 2 ^ a * 2 ^ b := by rw [Nat.pow_add, Nat.mul_assoc]
  have e1 : n * 2 ^ (a + b) / 2 ^ b = n * 2 ^ a := by rw [e0, Nat.mul_div_cancel _ (Nat.two_pow_pos b)]
  rw [e1]
  by_cases hb : b = 0
  · simp [hb]
  · rw [if_neg hb]
    have e2 : n * 2 ^ (a + b) / 2 ^ (b - 1) = n * 2 ^ a * 2 := by
      rw [e0, show b = (b - 1) + 1 from by omega, Nat.pow_succ, Nat.add_sub_cancel, ← Nat.mul_assoc, Nat.mul_right_comm, Nat.mul_div_cancel _ (Nat.two_pow_pos _)]
    rw [e2]
    simp
theorem log2_shift (n k : Nat) (h : n / 2 ^ k ≠ 0) : n.log2 = (n / 2 ^ k).log2 + k := by
  have l := log2_le h
  have u := lt_log2 (n / 2 ^ k)
  have g : 0 < 2 ^ k := Nat.two_pow_pos k
  apply log2_of
  · rw [Nat.pow_add]
    calc 2 ^ (n / 2 ^ k).log2 * 2 ^ k ≤ n / 2 ^ k * 2 ^ k := Nat.mul_le_mul_right _ l
      _ ≤ n := Nat.div_mul_le_self _ _
  · rw [show (n / 2 ^ k).log2 + k + 1 = ((n / 2 ^ k).log2 + 1) + k from by omega, Nat.pow_add]
    exact (Nat.div_lt_iff_lt_mul g).1 u
/- A number and what is left of it behind k digits round alike, if what is cut off is told, and a digit is dropped behind it. -/
theorem rd_shift (f : Ieee.Format) (neg : Bool) (W k : Nat) (more : Bool) (e : Int) (h : W / 2 ^ k ≠ 0)
    (hd : (more = false ∧ W % 2 ^ k = 0) ∨ e + k < lastR f (W / 2 ^ k) (e + k)) :
    rd f neg W more e = rd f neg (W / 2 ^ k) (more || decide (W % 2 ^ k ≠ 0)) (e + k) := by
  have hW : W ≠ 0 := by intro z; subst z; simp at h
  unfold rd
  rw [if_neg hW, if_neg h]
  have hl := log2_shift W k h
  have hlast : lastR f W e = lastR f (W / 2 ^ k) (e + k) := by
    unfold lastR; rw [hl]; congr 1; push_cast; omega
  congr 2
  unfold rungR
  rw [← hlast]
  rw [← hlast] at hd
  congr 1
  generalize lastR f W e = t at hd
  by_cases c : e + k < t
  · have z1 : (e - t).toNat = 0 := by omega
    have z2 : (e + k - t).toNat = 0 := by omega
    rw [z1, z2, Nat.shiftLeft_zero, Nat.shiftLeft_zero]
    have : (t - e).toNat = (t - (e + k)).toNat + k := by omega
    rw [this, rne_shift _ _ _ _ (by omega)]
  · rcases hd with ⟨hm, hz⟩ | hd
    · have hWk : W = W / 2 ^ k * 2 ^ k := by
        have := Nat.div_add_mod W (2 ^ k); rw [hz, Nat.mul_comm] at this; omega
      have z3 : (t - (e + k)).toNat = 0 := by omega
      rw [z3, rne_zero, Nat.shiftLeft_eq, Nat.shiftLeft_eq]
      by_cases c2 : e < t
      · have z1 : (e - t).toNat = 0 := by omega
        rw [z1, Nat.pow_zero, Nat.mul_one]
        have hk : k = (e + k - t).toNat + (t - e).toNat := by omega
        have := rne_exact (W / 2 ^ k) (e + k - t).toNat (t - e).toNat more hm
        rw [← hk, ← hWk] at this
        exact this
      · have z1 : (t - e).toNat = 0 := by omega
        rw [z1, rne_zero]
        conv => lhs; rw [hWk]
        rw [Nat.mul_assoc, ← Nat.pow_add]
        congr 2
        omega
    · omega
end Go.Proofs.YtjkebimmddlccaaDoor
