/-
  Plain facts on decimal numerals of at most nine digits; no statement is proved here.
-/
import Derived.Lib.AtoiTie
import Derived.Lib.ItoaNum
namespace Go.Proofs.YtmcljnohdknpoaaDoor
open Go
set_option linter.unusedVariables false

/- The number that a numeral of one to nine digits, without a nought ahead, spells. -/
def num9 (l : List UInt8) : Option Nat := if l ≠ [] ∧ l.length ≤ 9 ∧ (l.length = 1 ∨ l.head? ≠ some 48) then Lib.decFrom 0 l else none

theorem decFrom_snoc (l : List UInt8) (b : UInt8) : ∀ acc, Lib.decFrom acc (l ++ [b]) = match Lib.decFrom acc l with | some n => (Lib.digitVal b).map fun d => n * 10 + d | none => none := by
  induction l with
  | nil => intro acc; simp only [List.nil_append, Lib.decFrom]; cases Lib.digitVal b <;> rfl
  | cons a t ih =>
    intro acc
    simp only [List.cons_append, Lib.decFrom]
    cases Lib.digitVal a with
    | none => rfl
    | some d => exact ih _
theorem u8_of (n : Nat) (h : n < 256) : (UInt8.ofNat n).toNat = n := by
  rw [UInt8.toNat_ofNat']
  exact Nat.mod_eq_of_lt h
theorem digit_of (d : Nat) (h : d < 10) : Lib.digitVal (UInt8.ofNat (48 + d)) = some d := by
  unfold Lib.digitVal
  rw [u8_of _ (by omega), if_pos (by omega)]
  congr 1
  omega
theorem digit_inv {b : UInt8} {d : Nat} (h : Lib.digitVal b = some d) : b = UInt8.ofNat (48 + d) ∧ d < 10 := by
  unfold Lib.digitVal at h
  split at h
  · rename_i hb
    obtain rfl := Option.some.inj h
    refine ⟨?_, by omega⟩
    apply UInt8.toNat_inj.1
    rw [u8_of _ (by omega)]
    omega
  · cases h
theorem dec_small {u : Nat} (h : u < 10) : Lib.decDigits u = [UInt8.ofNat (48 + u)] := by rw [Lib.decDigits, dif_pos h]
theorem dec_big {u : Nat} (h : ¬ u < 10) : Lib.decDigits u = Lib.decDigits (u / 10) ++ [UInt8.ofNat (48 + u % 10)] := by rw [Lib.decDigits, dif_neg h]
theorem dec_ne (u : Nat) : Lib.decDigits u ≠ [] := by
  by_cases h : u < 10
  · rw [dec_small h]; simp
  · rw [dec_big h]; simp
theorem dec_from (u : Nat) : Lib.decFrom 0 (Lib.decDigits u) = some u := by
  induction u using Nat.strongRecOn with
  | _ u ih =>
    by_cases h : u < 10
    · rw [dec_small h]
      simp only [Lib.decFrom, digit_of u h]
      simp
    · rw [dec_big h, decFrom_snoc, ih (u / 10) (by omega), digit_of _ (by omega)]
      simp only [Option.map_some]
      congr 1
      omega
theorem dec_head (u : Nat) (h0 : 0 < u) : (Lib.decDigits u).head? ≠ some 48 := by
  induction u using Nat.strongRecOn with
  | _ u ih =>
    by_cases h : u < 10
    · rw [dec_small h]
      intro hh
      have := congrArg UInt8.toNat (Option.some.inj hh)
      rw [u8_of _ (by omega)] at this
      have h48 : (48 : UInt8).toNat = 48 := rfl
      omega
    · rw [dec_big h, List.head?_append]
      have := ih (u / 10) (by omega) (by omega)
      cases hd : (Lib.decDigits (u / 10)).head? with
      | none => exact absurd (List.head?_eq_none_iff.1 hd) (dec_ne _)
      | some x => rw [hd] at this; simpa using this
theorem dec_len (u : Nat) : (Lib.decDigits u).length = Lib.nDigits u := by rw [Lib.decDigits_eq]; simp
theorem nine_lt {u : Nat} (h : (Lib.decDigits u).length ≤ 9) : u < 1000000000 := by
  have h1 := Lib.lt_pow_nDigits u
  rw [← dec_len] at h1
  have h2 : 10 ^ (Lib.decDigits u).length ≤ 10 ^ 9 := Nat.pow_le_pow_right (by decide) h
  have h3 : (10 : Nat) ^ 9 = 1000000000 := by decide
  omega
theorem num9_dec {u : Nat} (h : (Lib.decDigits u).length ≤ 9) : num9 (Lib.decDigits u) = some u := by
  have h3 : (Lib.decDigits u).length = 1 ∨ (Lib.decDigits u).head? ≠ some 48 := by
    by_cases h0 : u = 0
    · subst h0; left; rw [dec_small (by decide)]; rfl
    · exact Or.inr (dec_head u (by omega))
  unfold num9
  rw [if_pos ⟨dec_ne u, h, h3⟩, dec_from]
theorem from_dec (l : List UInt8) : ∀ u, l ≠ [] → (l.length = 1 ∨ l.head? ≠ some 48) → Lib.decFrom 0 l = some u → Lib.decDigits u = l := by
  induction hn : l.length using Nat.strongRecOn generalizing l with
  | _ n ih =>
    intro u h0 h1 h2
    rcases List.eq_nil_or_concat l with rfl | ⟨t, b, rfl⟩
    · exact absurd rfl h0
    · rw [List.concat_eq_append] at *
      rw [decFrom_snoc] at h2
      cases ht : Lib.decFrom 0 t with
      | none => rw [ht] at h2; cases h2
      | some m =>
        rw [ht] at h2
        simp only at h2
        cases hb : Lib.digitVal b with
        | none => rw [hb] at h2; cases h2
        | some d =>
          rw [hb] at h2
          simp only [Option.map_some, Option.some.injEq] at h2
          subst h2
          obtain ⟨rfl, hd⟩ := digit_inv hb
          by_cases h3 : t = []
          · subst h3
            simp only [Lib.decFrom] at ht
            obtain rfl := Option.some.inj ht
            rw [dec_small (by omega)]
            simp
          · have hl : 0 < t.length := List.length_pos_iff.2 h3
            have hh : t.head? ≠ some 48 := by
              rcases h1 with h1 | h1
              · rw [h1, List.length_append] at hn
                simp only [List.length_cons, List.length_nil] at hn
                omega
              · rw [List.head?_append] at h1
                cases hd : t.head? with
                | none => simp
                | some x => rw [hd] at h1; simpa using h1
            have hi := ih t.length (by rw [← hn]; simp) t rfl m h3 (Or.inr hh) ht
            have hm : m ≠ 0 := by
              rintro rfl
              rw [dec_small (by decide)] at hi
              rw [← hi] at hh
              exact hh rfl
            rw [dec_big (by omega), show (m * 10 + d) / 10 = m by omega, show (m * 10 + d) % 10 = d by omega, hi]
theorem num9_inv {l : List UInt8} {u : Nat} (h : num9 l = some u) : Lib.decDigits u = l ∧ u < 1000000000 := by
  unfold num9 at h
  split at h
  · rename_i hc
    have := from_dec l u hc.1 hc.2.2 h
    exact ⟨this, nine_lt (by rw [this]; exact hc.2.1)⟩
  · cases h
/- What Atoi tells of such a numeral. -/
theorem atoi_of {l : List UInt8} {u : Nat} (h : num9 l = some u) : Lib.atoiAll l = .ok (u : Int) := by
  have hl : l.length ≤ 9 ∧ Lib.decFrom 0 l = some u ∧ l ≠ [] := by
    unfold num9 at h
    split at h
    · rename_i hc; exact ⟨hc.2.1, h, hc.1⟩
    · cases h
  obtain ⟨h9, hd, hne⟩ := hl
  rw [Lib.atoiAll_short l (by omega)]
  cases l with
  | nil => exact absurd rfl hne
  | cons b r =>
    have hb : ∃ d, Lib.digitVal b = some d := by
      simp only [Lib.decFrom] at hd
      cases hv : Lib.digitVal b with
      | none => rw [hv] at hd; cases hd
      | some d => exact ⟨d, rfl⟩
    obtain ⟨d, hb⟩ := hb
    have hbn : 48 ≤ b.toNat ∧ b.toNat ≤ 57 := by
      unfold Lib.digitVal at hb
      split at hb
      · assumption
      · cases hb
    have e45 : (b == 45) = false := by
      apply beq_false_of_ne
      rintro rfl
      have : (45 : UInt8).toNat = 45 := rfl
      omega
    have e43 : (b == 43) = false := by
      apply beq_false_of_ne
      rintro rfl
      have : (43 : UInt8).toNat = 43 := rfl
      omega
    simp only [Lib.atoi, e45, e43, Lib.decNat]
    rw [show ((b :: r).isEmpty) = false from rfl]
    simp [hd, Lib.NumEnd.ofOption]
theorem itoa_of {l : List UInt8} {u : Nat} (h : num9 l = some u) : Lib.itoa (u : Int) = l := by
  unfold Lib.itoa
  rw [if_neg (by omega)]
  exact (num9_inv h).1
/- What is written again as it was is such a numeral. -/
theorem num9_of {l : List UInt8} {v : Int} (h0 : 0 ≤ v) (hl : l.length ≤ 9) (h : Lib.itoa v = l) : num9 l = some v.toNat := by
  unfold Lib.itoa at h
  rw [if_neg (by omega)] at h
  rw [← h] at hl ⊢
  exact num9_dec hl
end Go.Proofs.YtmcljnohdknpoaaDoor
