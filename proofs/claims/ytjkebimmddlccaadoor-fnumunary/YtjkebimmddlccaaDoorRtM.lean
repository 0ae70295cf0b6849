/-
  Plain facts on square roots of words, by digits; no statement is proved here.
-/
import Derived.Test.YtjkebimmddlccaaDoorUnM
namespace Go.Proofs.YtjkebimmddlccaaDoor
set_option linter.unusedVariables false
set_option linter.unusedSimpArgs false

/- r is the whole root of n. -/
def IsR (r n : Nat) : Prop := r * r ≤ n ∧ n < (r + 1) * (r + 1)
theorem IsR.uniq {r s n : Nat} (h : IsR r n) (k : IsR s n) : r = s := by
  rcases Nat.lt_trichotomy r s with c | c | c
  · exfalso
    have : (r + 1) * (r + 1) ≤ s * s := Nat.mul_le_mul c c
    have := h.2; have := k.1; omega
  · exact c
  · exfalso
    have : (s + 1) * (s + 1) ≤ r * r := Nat.mul_le_mul c c
    have := k.2; have := h.1; omega
theorem rootFrom_is (n : Nat) : ∀ (t r : Nat), r * r ≤ n → n < (r + 2 ^ t) * (r + 2 ^ t) → IsR (Ieee.Datum.rootFrom n t r) n
  | 0, r, h0, h1 => by rw [Nat.pow_zero] at h1; exact ⟨h0, h1⟩
  | t + 1, r, h0, h1 => by
    unfold Ieee.Datum.rootFrom
    rw [Nat.one_shiftLeft]
    by_cases c : (r + 2 ^ t) * (r + 2 ^ t) ≤ n
    · simp only [c, if_true]
      exact rootFrom_is n t _ c (by rw [Nat.add_assoc, ← Nat.two_mul, Nat.mul_comm 2, ← Nat.pow_succ]; exact h1)
    · simp only [c, if_false]
      exact rootFrom_is n t r h0 (by omega)
theorem root_log (n : Nat) : n < (0 + 2 ^ (n.log2 / 2 + 1)) * (0 + 2 ^ (n.log2 / 2 + 1)) := by
  have l := lt_log2 n
  have : 2 ^ (n.log2 + 1) ≤ 2 ^ (n.log2 / 2 + 1) * 2 ^ (n.log2 / 2 + 1) := by
    rw [← Nat.pow_add]; exact Nat.pow_le_pow_right (by decide) (by omega)
  rw [Nat.zero_add]; omega
theorem sq_mul (a b : Nat) : a * b * (a * b) = a * a * (b * b) := by
  rw [Nat.mul_assoc, Nat.mul_left_comm b, ← Nat.mul_assoc]
theorem pow4 (k : Nat) : 4 ^ k = 2 ^ k * 2 ^ k := by
  rw [← Nat.pow_add, ← Nat.two_mul, Nat.pow_mul]
/- Digits more of a root. -/
theorem root_div {n k q r : Nat} (hq : IsR q n) (hr : IsR r (n * 4 ^ k)) : r / 2 ^ k = q ∧ ((n * 4 ^ k ≠ r * r ∨ r % 2 ^ k ≠ 0) ↔ n ≠ q * q) := by
  have g := Nat.two_pow_pos k
  have gg : 0 < 2 ^ k * 2 ^ k := Nat.mul_pos g g
  have dm := Nat.div_add_mod r (2 ^ k)
  have ml := Nat.mod_lt r g
  rw [pow4] at hr ⊢
  have i1 : IsR (r / 2 ^ k) n := by
    constructor
    · have h1 : r / 2 ^ k * 2 ^ k ≤ r := Nat.div_mul_le_self _ _
      have h2 : r / 2 ^ k * 2 ^ k * (r / 2 ^ k * 2 ^ k) ≤ r * r := Nat.mul_le_mul h1 h1
      rw [sq_mul] at h2
      exact Nat.le_of_mul_le_mul_right (Nat.le_trans h2 hr.1) gg
    · have h1 : r + 1 ≤ (r / 2 ^ k + 1) * 2 ^ k := by rw [Nat.add_mul, Nat.one_mul, Nat.mul_comm]; omega
      have h2 : (r + 1) * (r + 1) ≤ (r / 2 ^ k + 1) * 2 ^ k * ((r / 2 ^ k + 1) * 2 ^ k) := Nat.mul_le_mul h1 h1
      rw [sq_mul] at h2
      exact Nat.lt_of_mul_lt_mul_right (Nat.lt_of_lt_of_le hr.2 h2)
  have e1 := i1.uniq hq
  refine ⟨e1, ?_⟩
  rw [e1] at dm
  constructor
  · intro h hn
    have i2 : IsR (q * 2 ^ k) (n * (2 ^ k * 2 ^ k)) := by
      constructor
      · rw [sq_mul, hn]; exact Nat.le_refl _
      · have h3 : q * 2 ^ k * (q * 2 ^ k) < (q * 2 ^ k + 1) * (q * 2 ^ k + 1) := Nat.mul_lt_mul'' (by omega) (by omega)
        rw [sq_mul, ← hn] at h3
        exact h3
    have e2 := hr.uniq i2
    rcases h with h | h
    · apply h; rw [e2, sq_mul, hn]
    · apply h; rw [e2, Nat.mul_mod_left]
  · intro hn
    by_cases z : r % 2 ^ k = 0
    · left
      intro h
      apply hn
      have e2 : r = q * 2 ^ k := by rw [Nat.mul_comm]; omega
      rw [e2, sq_mul] at h
      exact Nat.eq_of_mul_eq_mul_right gg h
    · exact Or.inr z
theorem rd_root {f : Ieee.Format} {n k q r : Nat} (p : Int) (hq : IsR q n) (hr : IsR r (n * 4 ^ k)) (big : 2 ^ (f.fractionBits + 1) ≤ q) :
    rd f false r (decide (n * 4 ^ k ≠ r * r)) (p - k) = rd f false q (decide (n ≠ q * q)) p := by
  obtain ⟨e1, e2⟩ := root_div hq hr
  have hp := Nat.two_pow_pos (f.fractionBits + 1)
  have hs := rd_shift f false r k (decide (n * 4 ^ k ≠ r * r)) (p - k) (by rw [e1]; omega) (Or.inr (by rw [e1, show p - (k : Int) + k = p from by omega]; exact last_gt f p big))
  rw [hs, e1, show p - (k : Int) + k = p from by omega]
  congr 1
  rw [← Bool.decide_or]
  exact decide_eq_decide.2 e2
/- The model's root: its whole root and whether something is left. -/
theorem sqrt_q {f : Ieee.Format} (ht : Two f) {x : Nat} (h : sz f x < f.infRung) (z : sz f x ≠ 0) (hn : ng f x = false) :
    ∃ mo q : Nat, (mo = 2 * (f.fractionBits + 2) - (mg f x).log2 ∨ mo = 2 * (f.fractionBits + 2) - (mg f x).log2 + 1) ∧ (pl f x - mo) % 2 = 0 ∧ IsR q (mg f x * 2 ^ mo) ∧ 2 ^ (f.fractionBits + 2) ≤ q ∧
      f.sqrt x = some (rd f false q (decide (mg f x * 2 ^ mo ≠ q * q)) ((pl f x - mo) / 2)) := by
  have hm : mg f x ≠ 0 := fun hh => z (mg_zero.1 hh)
  have la : (mg f x).log2 ≤ f.fractionBits := by have := (Nat.log2_lt hm).2 (mg_lt (f := f) x); omega
  have ll := log2_le hm
  generalize hm0 : 2 * (f.fractionBits + 2) - (mg f x).log2 = m0
  obtain ⟨δ, hδ⟩ : ∃ δ : Nat, δ = ((pl f x - (m0 : Int)) % 2).toNat := ⟨_, rfl⟩
  have hq := rootFrom_is (mg f x * 2 ^ (m0 + δ)) ((mg f x * 2 ^ (m0 + δ)).log2 / 2 + 1) 0 (by omega) (root_log _)
  refine ⟨m0 + δ, _, by omega, by push_cast; omega, hq, ?_, ?_⟩
  · have h1 : 2 ^ (f.fractionBits + 2) * 2 ^ (f.fractionBits + 2) ≤ mg f x * 2 ^ (m0 + δ) := by
      rw [← Nat.pow_add]
      calc 2 ^ (f.fractionBits + 2 + (f.fractionBits + 2)) ≤ 2 ^ ((mg f x).log2 + (m0 + δ)) := Nat.pow_le_pow_right (by decide) (by omega)
        _ = 2 ^ (mg f x).log2 * 2 ^ (m0 + δ) := Nat.pow_add ..
        _ ≤ _ := Nat.mul_le_mul_right _ ll
    have h2 := hq.2
    generalize Ieee.Datum.rootFrom (mg f x * 2 ^ (m0 + δ)) ((mg f x * 2 ^ (m0 + δ)).log2 / 2 + 1) 0 = q at h2 ⊢
    rcases Nat.lt_or_ge q (2 ^ (f.fractionBits + 2)) with c | c
    · exfalso
      have : (q + 1) * (q + 1) ≤ 2 ^ (f.fractionBits + 2) * 2 ^ (f.fractionBits + 2) := Nat.mul_le_mul c c
      omega
    · exact c
  · have big : 2 ^ (f.fractionBits + 1) ≤ Ieee.Datum.rootFrom (mg f x * 2 ^ (m0 + δ)) ((mg f x * 2 ^ (m0 + δ)).log2 / 2 + 1) 0 := by
      have h1 : 2 ^ (f.fractionBits + 1) * 2 ^ (f.fractionBits + 1) ≤ mg f x * 2 ^ (m0 + δ) := by
        rw [← Nat.pow_add]
        calc 2 ^ (f.fractionBits + 1 + (f.fractionBits + 1)) ≤ 2 ^ ((mg f x).log2 + (m0 + δ)) := Nat.pow_le_pow_right (by decide) (by omega)
          _ = 2 ^ (mg f x).log2 * 2 ^ (m0 + δ) := Nat.pow_add ..
          _ ≤ _ := Nat.mul_le_mul_right _ ll
      have h2 := hq.2
      generalize Ieee.Datum.rootFrom (mg f x * 2 ^ (m0 + δ)) ((mg f x * 2 ^ (m0 + δ)).log2 / 2 + 1) 0 = q at h2 ⊢
      rcases Nat.lt_or_ge q (2 ^ (f.fractionBits + 1)) with c | c
      · exfalso
        have : (q + 1) * (q + 1) ≤ 2 ^ (f.fractionBits + 1) * 2 ^ (f.fractionBits + 1) := Nat.mul_le_mul c c
        omega
      · exact c
    unfold Ieee.Format.sqrt
    rw [read_fin ht h, hn]
    simp only [Ieee.Datum.root, if_neg hm, Bool.false_eq_true, if_false, hm0, ← hδ, Nat.shiftLeft_eq, Option.map, Ieee.Format.write, nearest_rd]
    congr 1
    have hp := Nat.two_pow_pos (f.fractionBits + 1)
    generalize hQ : Ieee.Datum.rootFrom (mg f x * 2 ^ (m0 + δ)) ((mg f x * 2 ^ (m0 + δ)).log2 / 2 + 1) 0 = q at *
    generalize mg f x * 2 ^ (m0 + δ) = n at *
    have hb : (q * q != n).toNat = if n ≠ q * q then 1 else 0 := by
      by_cases e : n = q * q
      · rw [e]; simp
      · have : (q * q != n) = true := bne_iff_ne.2 (fun h => e h.symm)
        rw [this, if_pos e]; rfl
    have hle : (q * q != n).toNat ≤ 1 := by rw [hb]; split <;> omega
    have d1 : (2 * q + (q * q != n).toNat) / 2 ^ 1 = q := by omega
    have d2 : (2 * q + (q * q != n).toNat) % 2 ^ 1 = (q * q != n).toNat := by omega
    have hs := rd_shift f false (2 * q + (q * q != n).toNat) 1 false ((pl f x - ((m0 : Int) + (δ : Int))) / 2 - 1) (by rw [d1]; omega) (Or.inr (by rw [d1]; exact last_gt f _ big))
    have ec : ((m0 + δ : Nat) : Int) = (m0 : Int) + (δ : Int) := by push_cast; rfl
    rw [ec]
    refine Eq.trans hs ?_
    rw [d1, d2, show (pl f x - ((m0 : Int) + (δ : Int))) / 2 - 1 + ((1 : Nat) : Int) = (pl f x - ((m0 : Int) + (δ : Int))) / 2 from by omega, Bool.false_or]
    congr 1
    rw [hb]
    apply decide_eq_decide.2
    by_cases e : n = q * q <;> simp [e]
/- The root by more digits. -/
theorem sqrt_any {f : Ieee.Format} (ht : Two f) {x : Nat} (h : sz f x < f.infRung) (z : sz f x ≠ 0) (hn : ng f x = false) (c r : Nat) (hc : 2 * (f.fractionBits + 2) + 1 ≤ c + (mg f x).log2) (hp : (pl f x - c) % 2 = 0) (hr : IsR r (mg f x * 2 ^ c)) :
    f.sqrt x = some (rd f false r (decide (mg f x * 2 ^ c ≠ r * r)) ((pl f x - c) / 2)) := by
  obtain ⟨mo, q, hmo, hpar, hq, hbig, hs⟩ := sqrt_q ht h z hn
  rw [hs]
  congr 1
  obtain ⟨k, hk⟩ : ∃ k : Nat, c = mo + 2 * k := ⟨(c - mo) / 2, by omega⟩
  have e4 : mg f x * 2 ^ c = mg f x * 2 ^ mo * 4 ^ k := by
    rw [hk, Nat.pow_add, Nat.pow_mul, ← Nat.mul_assoc]
  rw [e4] at hr ⊢
  have hb2 : 2 ^ (f.fractionBits + 1) ≤ q := Nat.le_trans (Nat.pow_le_pow_right (by decide) (by omega)) hbig
  have := rd_root (f := f) ((pl f x - mo) / 2) hq hr hb2
  rw [← this]
  congr 1
  omega
end Go.Proofs.YtjkebimmddlccaaDoor
