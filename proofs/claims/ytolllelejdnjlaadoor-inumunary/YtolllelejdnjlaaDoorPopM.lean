/-
  Plain mathematics: how many bits are set, counted one by one and counted by halves; nothing of the program.
-/
import Derived.Test.YtolllelejdnjlaaDoorBitM
namespace Go.Proofs.YtolllelejdnjlaaDoor
set_option linter.unusedVariables false

/- So many of the lowest bits are set. -/
def pc (a : Nat) : Nat → Nat
  | 0 => 0
  | n + 1 => pc a n + (if a.testBit n then 1 else 0)
theorem pc_le (a n : Nat) : pc a n ≤ n := by
  induction n with
  | zero => simp [pc]
  | succ n ih => rw [pc]; split <;> omega
theorem pc_split (a m n : Nat) : pc a (m + n) = pc a m + pc (a / 2 ^ m) n := by
  induction n with
  | zero => simp [pc]
  | succ n ih => rw [← Nat.add_assoc, pc, ih, pc, shr_bit]; omega
theorem pc_mod (a n : Nat) : pc a n = pc (a % 2 ^ n) n := by
  have : ∀ m, m ≤ n → pc a m = pc (a % 2 ^ n) m := by
    intro m
    induction m with
    | zero => intro; rfl
    | succ m ih =>
      intro h
      rw [pc, pc, ih (by omega), Nat.testBit_mod_two_pow]
      simp [show m < n from by omega]
  exact this n (Nat.le_refl _)
/- And of numbers split at a byte. -/
theorem and_split (h l mh ml : Nat) (hl : l < 256) (hm : ml < 256) : (256 * h + l) &&& (256 * mh + ml) = 256 * (h &&& mh) + (l &&& ml) := by
  have ha : l &&& ml < 2 ^ 8 := Nat.and_lt_two_pow l hm
  apply Nat.eq_of_testBit_eq
  intro i
  rw [Nat.testBit_and, Nat.testBit_two_pow_mul_add (i := 8) h hl, Nat.testBit_two_pow_mul_add (i := 8) mh hm, Nat.testBit_two_pow_mul_add (i := 8) (h &&& mh) ha]
  by_cases c : i < 8
  · simp [c]
  · simp [c]
def M0 : Nat → Nat | 0 => 0 | k + 1 => 256 * M0 k + 85
def M1 : Nat → Nat | 0 => 0 | k + 1 => 256 * M1 k + 51
def M2 : Nat → Nat | 0 => 0 | k + 1 => 256 * M2 k + 15
def P1 (k x : Nat) : Nat := (x / 2 &&& M0 k) + (x &&& M0 k)
def P2 (k x : Nat) : Nat := (x / 4 &&& M1 k) + (x &&& M1 k)
def P3 (k x : Nat) : Nat := (x / 16 + x) &&& M2 k
theorem lo1 : ∀ (e : Fin 2) (l : Fin 256), (e.val * 128 + l.val / 2) &&& 85 = (l.val / 2) &&& 85 := by decide +kernel
theorem lo2 : ∀ (e : Fin 4) (l : Fin 256), (e.val * 64 + l.val / 4) &&& 51 = (l.val / 4) &&& 51 := by decide +kernel
theorem b1 : ∀ l : Fin 256, (l.val / 2 &&& 85) + (l.val &&& 85) < 256 := by decide +kernel
theorem b2 : ∀ l : Fin 256, (l.val / 4 &&& 51) + (l.val &&& 51) < 256 := by decide +kernel
theorem P1_split (k h l : Nat) (hl : l < 256) : P1 (k + 1) (256 * h + l) = 256 * P1 k h + P1 1 l ∧ P1 1 l < 256 := by
  have q1 : (256 * h + l) / 2 = 256 * (h / 2) + (h % 2 * 128 + l / 2) := by omega
  have e : P1 1 l = (l / 2 &&& 85) + (l &&& 85) := rfl
  have d := lo1 ⟨h % 2, by omega⟩ ⟨l, hl⟩
  simp only at d
  refine ⟨?_, by rw [e]; exact b1 ⟨l, hl⟩⟩
  rw [e, P1, P1, M0, q1, and_split _ _ _ _ (by omega) (by decide), and_split _ _ _ _ hl (by decide), d]
  omega
theorem P2_split (k h l : Nat) (hl : l < 256) : P2 (k + 1) (256 * h + l) = 256 * P2 k h + P2 1 l ∧ P2 1 l < 256 := by
  have q1 : (256 * h + l) / 4 = 256 * (h / 4) + (h % 4 * 64 + l / 4) := by omega
  have e : P2 1 l = (l / 4 &&& 51) + (l &&& 51) := rfl
  have d := lo2 ⟨h % 4, by omega⟩ ⟨l, hl⟩
  simp only at d
  refine ⟨?_, by rw [e]; exact b2 ⟨l, hl⟩⟩
  rw [e, P2, P2, M1, q1, and_split _ _ _ _ (by omega) (by decide), and_split _ _ _ _ hl (by decide), d]
  omega
theorem P3_split (k h l : Nat) (hl : l < 256) (h1 : h % 16 ≤ 4) (h2 : l / 16 ≤ 4) (h3 : l % 16 ≤ 4) : P3 (k + 1) (256 * h + l) = 256 * P3 k h + (l / 16 + l % 16) := by
  have q1 : (256 * h + l) / 16 + (256 * h + l) = 256 * (h / 16 + h) + (h % 16 * 16 + l / 16 + l) := by omega
  have d : (h % 16 * 16 + l / 16 + l) &&& 15 = l / 16 + l % 16 := by
    rw [show (15 : Nat) = 2 ^ 4 - 1 from rfl, Nat.and_two_pow_sub_one_eq_mod]; omega
  rw [P3, P3, M2, q1, and_split _ _ _ _ (by omega) (by decide), d]
/- The three steps, byte by byte. -/
def ch (k x : Nat) : Nat := P3 k (P2 k (P1 k x))
theorem byt : ∀ l : Fin 256, P2 1 (P1 1 l.val) / 16 ≤ 4 ∧ P2 1 (P1 1 l.val) % 16 ≤ 4 ∧ P2 1 (P1 1 l.val) / 16 + P2 1 (P1 1 l.val) % 16 = pc l.val 8 := by decide +kernel
theorem low4 (k x : Nat) : P2 k (P1 k x) % 16 ≤ 4 := by
  cases k with
  | zero => simp [P2, P1, M0, M1]
  | succ k =>
    obtain ⟨h, l, hl, rfl⟩ : ∃ h l, l < 256 ∧ x = 256 * h + l := ⟨x / 256, x % 256, by omega, by omega⟩
    obtain ⟨e1, e2⟩ := P1_split k h l hl
    rw [e1, (P2_split k _ _ e2).1]
    have := (byt ⟨l, hl⟩).2.1
    simp only at this
    omega
theorem ch_split (k h l : Nat) (hl : l < 256) : ch (k + 1) (256 * h + l) = 256 * ch k h + pc l 8 := by
  obtain ⟨e1, e2⟩ := P1_split k h l hl
  obtain ⟨f1, f2⟩ := P2_split k (P1 k h) (P1 1 l) e2
  obtain ⟨g1, g2, g3⟩ := byt ⟨l, hl⟩
  simp only at g1 g2 g3
  rw [ch, e1, f1, P3_split k _ _ f2 (low4 k h) g1 g2, g3, ch]
theorem ch_eight (x : Nat) (hx : x < 18446744073709551616) :
    ch 8 x = pc (x % 256) 8 + 256 * (pc (x / 256 % 256) 8 + 256 * (pc (x / 65536 % 256) 8 + 256 * (pc (x / 16777216 % 256) 8 + 256 * (pc (x / 4294967296 % 256) 8 + 256 * (pc (x / 1099511627776 % 256) 8 + 256 * (pc (x / 281474976710656 % 256) 8 + 256 * pc (x / 72057594037927936 % 256) 8)))))) := by
  have st : ∀ k y, ch (k + 1) y = 256 * ch k (y / 256) + pc (y % 256) 8 := by
    intro k y
    have := ch_split k (y / 256) (y % 256) (by omega)
    rwa [show 256 * (y / 256) + y % 256 = y from by omega] at this
  have z : ∀ y, ch 0 y = 0 := fun y => by simp [ch, P3, M2]
  rw [st, st, st, st, st, st, st, st, z]
  simp only [Nat.div_div_eq_div_mul, Nat.reduceMul]
  omega
theorem pc_eight (x : Nat) (hx : x < 18446744073709551616) :
    pc x 64 = pc (x % 256) 8 + pc (x / 256 % 256) 8 + pc (x / 65536 % 256) 8 + pc (x / 16777216 % 256) 8 + pc (x / 4294967296 % 256) 8 + pc (x / 1099511627776 % 256) 8 + pc (x / 281474976710656 % 256) 8 + pc (x / 72057594037927936 % 256) 8 := by
  have st : ∀ n y, pc y (8 + n) = pc (y % 256) 8 + pc (y / 256) n := by
    intro n y
    rw [pc_split y 8 n, pc_mod y 8]
  have h0 : pc x 64 = pc (x % 256) 8 + pc (x / 256) 56 := by have := st 56 x; exact this
  have h1 : pc (x / 256) 56 = pc (x / 256 % 256) 8 + pc (x / 65536) 48 := by have := st 48 (x / 256); rwa [Nat.div_div_eq_div_mul] at this
  have h2 : pc (x / 65536) 48 = pc (x / 65536 % 256) 8 + pc (x / 16777216) 40 := by have := st 40 (x / 65536); rwa [Nat.div_div_eq_div_mul] at this
  have h3 : pc (x / 16777216) 40 = pc (x / 16777216 % 256) 8 + pc (x / 4294967296) 32 := by have := st 32 (x / 16777216); rwa [Nat.div_div_eq_div_mul] at this
  have h4 : pc (x / 4294967296) 32 = pc (x / 4294967296 % 256) 8 + pc (x / 1099511627776) 24 := by have := st 24 (x / 4294967296); rwa [Nat.div_div_eq_div_mul] at this
  have h5 : pc (x / 1099511627776) 24 = pc (x / 1099511627776 % 256) 8 + pc (x / 281474976710656) 16 := by have := st 16 (x / 1099511627776); rwa [Nat.div_div_eq_div_mul] at this
  have h6 : pc (x / 281474976710656) 16 = pc (x / 281474976710656 % 256) 8 + pc (x / 72057594037927936) 8 := by have := st 8 (x / 281474976710656); rwa [Nat.div_div_eq_div_mul] at this
  have h7 : pc (x / 72057594037927936) 8 = pc (x / 72057594037927936 % 256) 8 := st 0 (x / 72057594037927936)
  rw [h0, h1, h2, h3, h4, h5, h6, h7]
  simp only [Nat.add_assoc]
/- All six steps. -/
theorem pop_all (x z z4 z5 z6 : Nat) (hx : x < 18446744073709551616) (hz : z = ch 8 x) (h4 : z4 = z + z / 256) (h5 : z5 = z4 + z4 / 65536) (h6 : z6 = z5 + z5 / 4294967296) :
    z6 % 128 = pc x 64 ∧ z6 < 18446744073709551616 := by
  have e := ch_eight x hx
  rw [pc_eight x hx]
  rw [← hz] at e
  have a0 := pc_le (x % 256) 8; have a1 := pc_le (x / 256 % 256) 8; have a2 := pc_le (x / 65536 % 256) 8; have a3 := pc_le (x / 16777216 % 256) 8
  have a4 := pc_le (x / 4294967296 % 256) 8; have a5 := pc_le (x / 1099511627776 % 256) 8; have a6 := pc_le (x / 281474976710656 % 256) 8; have a7 := pc_le (x / 72057594037927936 % 256) 8
  generalize pc (x % 256) 8 = q0 at *; generalize pc (x / 256 % 256) 8 = q1 at *; generalize pc (x / 65536 % 256) 8 = q2 at *; generalize pc (x / 16777216 % 256) 8 = q3 at *
  generalize pc (x / 4294967296 % 256) 8 = q4 at *; generalize pc (x / 1099511627776 % 256) 8 = q5 at *; generalize pc (x / 281474976710656 % 256) 8 = q6 at *; generalize pc (x / 72057594037927936 % 256) 8 = q7 at *
  have d1 : z / 256 = q1 + 256 * (q2 + 256 * (q3 + 256 * (q4 + 256 * (q5 + 256 * (q6 + 256 * q7))))) := by omega
  have d2 : z4 = (q0 + q1) + 256 * ((q1 + q2) + 256 * ((q2 + q3) + 256 * ((q3 + q4) + 256 * ((q4 + q5) + 256 * ((q5 + q6) + 256 * ((q6 + q7) + 256 * q7)))))) := by omega
  have d3 : z4 / 65536 = (q2 + q3) + 256 * ((q3 + q4) + 256 * ((q4 + q5) + 256 * ((q5 + q6) + 256 * ((q6 + q7) + 256 * q7)))) := by omega
  have d4 : z5 = (q0 + q1 + q2 + q3) + 256 * ((q1 + q2 + q3 + q4) + 256 * ((q2 + q3 + q4 + q5) + 256 * ((q3 + q4 + q5 + q6) + 256 * ((q4 + q5 + q6 + q7) + 256 * ((q5 + q6 + q7) + 256 * ((q6 + q7) + 256 * q7)))))) := by omega
  have d5 : z5 / 4294967296 = (q4 + q5 + q6 + q7) + 256 * ((q5 + q6 + q7) + 256 * ((q6 + q7) + 256 * q7)) := by omega
  clear hx hz h4 e d1 d2 d3
  omega
end Go.Proofs.YtolllelejdnjlaaDoor
